import Derived.Test.YtnpidjamplmgjaaGreatDoorQ31
import Derived.Laws.EntriesVeiled
set_option linter.unusedSectionVars false
variable [Inhabited Go.Proofs.YtnpidjamplmgjaaGreatDoor.Pick]
namespace Go.Proofs.YtnpidjamplmgjaaGreatDoor
open Go.RowKit
set_option linter.unusedVariables false
set_option linter.unusedSimpArgs false
set_option maxRecDepth 100000
set_option maxHeartbeats 16000000
structure Okt (t:Tr):Prop where
 gl:t.globals.length<=50
 fl:t.funcs.length<=50
 g : ∀g∈t.globals,g.name.size<=9223372036854775807/\0<=g.size/\g.size<=4000
 f : ∀f∈t.funcs,FnOk f
 fn : ∀f∈t.funcs,f.name.size<=9223372036854775807
 sm : ∀f∈t.funcs,smallF f
 wf:wfFs t.funcs
theorem okt {t:Tr} (h:treeB t=true) (hs:smallT t) (hw:wfT t):Okt t:=by
 unfold treeB at h
 simp only [Bool.and_eq_true,decide_eq_true_iff,List.all_eq_true] at h
 obtain ⟨h1,h2,h3,h4⟩:=h
 refine ⟨h1,h2,fun g hg => ?_,fun f hf => ?_,fun f hf=>(hw.2.2 f hf).1,hs.2.2,hw.2⟩
 ·have:=h3 g hg
  unfold globB at this
  simp only [Bool.and_eq_true,decide_eq_true_iff] at this
  exact ⟨hw.1.2 g hg,this.2.1,this.2.2⟩
 ·have:=h4 f hf
  unfold funcB at this
  simp only [Bool.and_eq_true,decide_eq_true_iff] at this
  have hs1:=hs.2.2 f hf
  have hw1:=hw.2.2 f hf
  exact ⟨this.2.2.2.2.2,hs1.2.2,hw1.2.2.2,hw1.2.1.2,by omega,by omega⟩
def mainE (t:Tr):Int:=match fnum t.funcs mainS with | none=>3 | some m=>if (t.funcs.getD m ⟨⟨#[]⟩,[],[]⟩).params.length>0 then 3 else 0
theorem names_top {t:Tr} (h:(topE t).1≠0):namesE t=topE t:=by
 unfold topE at h ⊢
 unfold namesE
 split
 ·rfl
 ·rename_i hd
  rw [if_neg hd] at h
  cases hq:dupF (t.globals.map (·.name)) 0 t.funcs with
  | some i=>rfl
  | none=>rw [hq] at h;simp at h
theorem names_main {t:Tr} (h:(topE t).1=0):namesE t=(mainE t,-1,-1):=by
 unfold topE at h
 unfold namesE mainE
 split
 ·rename_i hd
  rw [if_pos hd] at h
  simp at h
 ·rename_i hd
  rw [if_neg hd] at h
  cases hq:dupF (t.globals.map (·.name)) 0 t.funcs with
  | some i=>rw [hq] at h;simp at h
  | none=>
   simp only
   cases fnum t.funcs mainS with
   | none=>rfl
   | some m=>simp only;split <;> rfl
theorem main_zero {t:Tr} (h:mainE t=0) : ∃m,fnum t.funcs mainS=some m:=by
 unfold mainE at h
 cases hm:fnum t.funcs mainS with
 | none=>rw [hm] at h;simp at h
 | some m=>exact ⟨m,rfl⟩
theorem check_tree {t:Tr} (h:treeB t=false):checkE t=(1,-1,-1):=by unfold checkE;rw [if_pos h]
theorem check_names {t:Tr} (h:treeB t=true) (hn:(namesE t).1≠0):checkE t=namesE t:=by unfold checkE;rw [if_neg (by simp [h]),if_pos hn]
theorem check_bodies {t:Tr} (h:treeB t=true) (hn:(namesE t).1=0) (hb:(bodiesE t 0 t.funcs).1≠0):checkE t=bodiesE t 0 t.funcs:=by unfold checkE;rw [if_neg (by simp [h]),if_neg (by simp [hn]),if_pos hb]
theorem check_circ {t:Tr} (h:treeB t=true) (hn:(namesE t).1=0) (hb:(bodiesE t 0 t.funcs).1=0) {m:Nat} (hm:fnum t.funcs mainS=some m):checkE t=circE t m 0 t.funcs.length:=by unfold checkE;rw [if_neg (by simp [h]),if_neg (by simp [hn]),if_neg (by simp [hb]),hm];rfl
theorem fidx0 (a b c d:Value) (W:World):(Instr.index 211 (.agg #[a,b,c,d]) (.int .i64 0)).run Tryz.prog W = .ok a W:=by kernel_rfl
theorem fidx1 (a b c d:Value) (W:World):(Instr.index 211 (.agg #[a,b,c,d]) (.int .i64 1)).run Tryz.prog W = .ok b W:=by kernel_rfl
theorem fidx2 (a b c d:Value) (W:World):(Instr.index 211 (.agg #[a,b,c,d]) (.int .i64 2)).run Tryz.prog W = .ok c W:=by kernel_rfl
theorem fidx3 (a b c d:Value) (W:World):(Instr.index 211 (.agg #[a,b,c,d]) (.int .i64 3)).run Tryz.prog W = .ok d W:=by kernel_rfl
theorem checkI_any (t:Tr) (vg vf:Value) (w:World) (hT:Tab w) (hs:smallT t) (hw:wfT t) (hg:Globs w vg t.globals) (hf:Funcs w vf t.funcs) :
  Calls Tryz.prog 98 #[.agg #[vg,vf]] w fun e w'=>e = .returned (errV (checkE t).1 (checkE t).2.1 (checkE t).2.2)/\Below w.heap.size w w':=by
 obtain ⟨RES,hRES⟩ : ∃R,R=checkE t:=⟨_,rfl⟩
 rw [<-hRES]
 have HRES:=hide hRES
 have HT:=hide hT
 have HS:=hide hs
 have HW:=hide hw
 have HG:=hide hg
 have HF:=hide hf
 obtain ⟨ag,cg,rfl,-⟩:=hg
 obtain ⟨af,cf,rfl,-⟩:=hf
 have hmf : ∀(fn:Fn) (first cap:Array Value) (w:World),(Instr.makeFunc fn first cap).run Tryz.prog w = .ok (.func fn first cap) w:=fun _ _ _ _=>rfl
 clear hT hs hw hRES
 go_enter Tryz.func98,Tryz.ntmps98
 go_wp2_with fail
 obtain ⟨W0,hW0⟩ : ∃W0,W0=(w.alloc (.cells #[.slice ag t.globals.length cg,.slice af t.funcs.length cf] 32)).alloc (.cells #[.slice none 0 0,.slice ag t.globals.length cg,.slice af t.funcs.length cf,.map none,.map none,.int .i64 (-1),.int .i64 (-1)] 208):=⟨_,rfl⟩
 obtain ⟨T0,hT0⟩ : ∃T0,T0=w.heap.size:=⟨_,rfl⟩
 obtain ⟨C,hC⟩ : ∃C,C=w.heap.size+1:=⟨_,rfl⟩
 have hA0:Bl w W0:=by rw [hW0];exact (bel_a _ _).alloc (by simp) _
 have a0:W0.cell? ⟨T0,0,none⟩=some (.slice ag t.globals.length cg):=by rw [hW0,hT0,World.cell?_alloc_lt _ _ ⟨w.heap.size,0,none⟩ (by simp)];simp
 have a1:W0.cell? ⟨T0,1,none⟩=some (.slice af t.funcs.length cf):=by rw [hW0,hT0,World.cell?_alloc_lt _ _ ⟨w.heap.size,1,none⟩ (by simp)];simp
 have hat : ∀o,W0.cell? ⟨C,o,none⟩=(#[.slice none 0 0,.slice ag t.globals.length cg,.slice af t.funcs.length cf,.map none,.map none,.int .i64 (-1),.int .i64 (-1)]:Array Value)[o]? := fun o=>by rw [hW0];exact World.cell?_alloc_at _ _ _ _ (by simp [hC])
 have hfz : ∀o,W0.frozen? ⟨C,o,none⟩=false:=fun o=>by rw [hW0];exact World.frozen?_alloc_at _ _ _ _ (by simp [hC])
 have HCell:=hide hat
 have HFz:=hide hfz
 have hCs:C<W0.heap.size:=by rw [hW0,hC];simp
 have hTs:T0<W0.heap.size:=by rw [hW0,hT0];simp;omega
 have hTC:T0≠C:=by omega
 have hwC:w.heap.size<=C:=by omega
 rw [<-hW0,<-hC,<-hT0]
 clear hW0 hC hT0 hat hfz
 refine (vtree_any t _ _ _ (HT.out.below HT.out.size hA0) HS.out (HG.out.below hA0) (HF.out.below hA0)).mono ?_
 rintro e w1 ⟨rfl,hb1⟩
 have b0:=(hb1.cell (p:=⟨T0,0,none⟩) hTs).trans a0
 have b1:=(hb1.cell (p:=⟨T0,1,none⟩) hTs).trans a1
 have hB1:Bl w w1:=hA0.trans (hb1.mono hA0.size)
 have HC1:=hide fun o=>(hb1.cell (p:=⟨C,o,none⟩) hCs).trans (HCell.out o)
 have HF1:Hid (∀o,w1.frozen? ⟨C,o,none⟩=false):=fun o=>(hb1.frozen (p:=⟨C,o,none⟩) hCs).trans (HFz.out o)
 have hC1:C<w1.heap.size:=Nat.lt_of_lt_of_le hCs hb1.size
 have hT1:T0<w1.heap.size:=Nat.lt_of_lt_of_le hTs hb1.size
 clear hb1 a0 a1 HCell HFz hCs hTs hA0
 cases htb:treeB t with
 | false=>
  have HE:Hid (RES=(1,-1,-1)):=HRES.out.trans (check_tree htb)
  clear htb
  go_wp2_with fail
  refine (fault_any C 1 (-1) (-1) _ (HC1.out 5) (HC1.out 6)).mono ?_
  rintro e w5 ⟨rfl,hw⟩
  rw [hw]
  clear hw
  go_wp2_with fail
  go_ret
  exact ⟨ret_val (by rw [HE.out];rfl),hB1⟩
 | true=>
  have HB:=hide htb
  have hok:=okt htb HS.out HW.out
  have HOk:=hide hok
  have hfl:=hok.fl
  have hgl:=hok.gl
  clear htb hok
  go_wp2_with fail
  refine (fnums_any t.funcs _ _ _ o_ HOk.out.wf (HF.out.below hB1)).mono ?_
  rintro e w2 ⟨bn,D,rfl,hbn,hown,hN,hb2⟩
  have hB2:Bl w w2:=hB1.trans (hb2.mono hB1.size)
  have HC2:=hide fun o=>(hb2.cell (p:=⟨C,o,none⟩) hC1).trans (HC1.out o)
  have HF2:Hid (∀o,w2.frozen? ⟨C,o,none⟩=false):=fun o=>(hb2.frozen (p:=⟨C,o,none⟩) hC1).trans (HF1.out o)
  have hC2:C<w2.heap.size:=Nat.lt_of_lt_of_le hC1 hb2.size
  have hbC:C<bn:=by omega
  have HOw:=hide hown
  have HN:=hide hN
  have q3:w2.cell? ⟨C,3,none⟩=some (.map none):=HC2.out 3
  have qf:=HF2.out 3
  clear hb2 hown hN hbn b0 b1 HC1 HF1
  have i0:=fidx0
  have i1:=fidx1
  have i2:=fidx2
  have i3:=fidx3
  go_wp2_with fail
  obtain ⟨W4,hW4⟩ : ∃W4,W4=(w2.setCell ⟨C,3,none⟩ (.map (some bn))).alloc (.cells #[.func (.func 127) #[.pointer (some ⟨C,0,none⟩)] #[],.func (.func 128) #[.pointer (some ⟨C,0,none⟩)] #[],.func (.func 129) #[.pointer (some ⟨C,0,none⟩)] #[],.func (.func 130) #[.pointer (some ⟨C,0,none⟩)] #[]] 211):=⟨_,rfl⟩
  have HCt:Hid (Ct0 w C bn t.funcs.length D t (.slice ag t.globals.length cg) (.slice af t.funcs.length cf) W4):=by
   have hcell : ∀o,o≠3->W4.cell? ⟨C,o,none⟩=w2.cell? ⟨C,o,none⟩:=fun o ho=>by
    rw [hW4,World.cell?_alloc_lt _ _ ⟨C,o,none⟩ (by simpa using hC2)]
    exact World.cell?_setCell_other _ _ _ _ (off_ne (fun e=>ho e.symm))
   have h3:W4.cell? ⟨C,3,none⟩=some (.map (some bn)):=by
    rw [hW4,World.cell?_alloc_lt _ _ ⟨C,3,none⟩ (by simpa using hC2)]
    exact World.cell?_setCell_same _ _ _ q3
   have hbw:Bl w W4:=by
    rw [hW4]
    exact (hB2.setCell (p:=⟨C,3,none⟩) hwC _).alloc (by have:=hB2.size;simpa using this) _
   exact ⟨(hcell 0 (by decide)).trans (HC2.out 0),(hcell 1 (by decide)).trans (HC2.out 1),(hcell 2 (by decide)).trans (HC2.out 2),h3,⟨_,(hcell 4 (by decide)).trans (HC2.out 4)⟩,(hcell 5 (by decide)).trans (HC2.out 5),(hcell 6 (by decide)).trans (HC2.out 6),fun o=>by
    rw [hW4,World.frozen?_alloc_past _ _ _ (by simpa using hC2)]
    simpa using HF2.out o,hwC,hbw,⟨HF.out,HG.out⟩,map_keep HOw.out (by rw [hW4,Below.heap_alloc _ _ _ (by have:=HOw.out.lt;simpa using this),Below.heap_setCell _ _ _ bn (fun h=>by simp at h;omega)]),HN.out,hbC⟩
  refine wp_loop_rounds 5 ?_
  rw [rounds_succ]
  go_wp2_with fail
  rw [<-hW4]
  obtain ⟨E,hE⟩ : ∃E:Ev,E=⟨w,C,W4.heap.size+1,bn,t.funcs.length,D,t,.slice ag t.globals.length cg,.slice af t.funcs.length cf,fun _=>none,fun _=>false,0⟩:=⟨_,rfl⟩
  have HTop:Hid (Calls Tryz.prog 127 #[.pointer (some ⟨C,0,none⟩)] W4 fun e w'=>e = .returned (errV (topE t).1 (topE t).2.1 (topE t).2.2) /\
   ∃gf' ng' v bt tk fn st,Cs {E with gf:=gf',ng:=ng'} w' [] [] v bt tk fn st/\((topE t).1=0->gf'=globF t.globals/\ng'<=1000/\fn = -1/\st = -1)):=by
   subst hE
   exact topK (E:=⟨w,C,W4.heap.size+1,bn,t.funcs.length,D,t,.slice ag t.globals.length cg,.slice af t.funcs.length cf,fun _=>none,fun _=>false,0⟩) (w:=W4) HCt.out rfl rfl rfl rfl (by show t.globals.length<=_;omega) (by show t.funcs.length<=_;omega) HOk.out.g HOk.out.fn
  have HEe:=hide hE
  clear hW4 hE HCt HC2 HF2 HOw q3 qf
  refine HTop.out.mono ?_
  rintro e w5 ⟨rfl,gf5,ng5,v5,bt5,tk5,fn5,st5,hc5,hi5⟩
  have hB5:Bl w w5:=by have:=hc5.base;rw [HEe.out] at this;exact this
  by_cases hz:(topE t).1=0
  ·obtain ⟨rfl,hng5,rfl,rfl⟩:=hi5 hz
   rw [hz,errV_zero]
   have HZ:=hide hz
   have HC5:=hide hc5
   clear hz hi5 hc5
   go_wp2_with fail
   rw [rounds_succ]
   go_wp2_with fail
   have HMa:Hid (Calls Tryz.prog 128 #[.pointer (some ⟨C,0,none⟩)] w5 fun e w'=>e = .returned (errV (mainE t) (-1) (-1))/\Bl w5 w'):=by
    have h:=HC5.out
    have hb:=h.box
    have hf:=h.fun0.1.below h.base
    rw [HEe.out] at hb hf
    have h1:=h.own
    have h2:=h.num
    rw [HEe.out] at h1 h2
    exact mainK_any C bn t.funcs.length D t (-1) (-1) _ w5 hb.c2 hb.c3 hb.c5 hb.c6 h1 h2 o_ hf
   refine HMa.out.mono ?_
   rintro e w6 ⟨rfl,hb6⟩
   have HC6:=hide (HC5.out.below hb6)
   have hB6:Bl w w6:=hB5.trans (hb6.mono hB5.size)
   clear hb6 HC5 HMa hB5
   by_cases hz:mainE t=0
   ·rw [hz,errV_zero]
    obtain ⟨m,hm⟩:=main_zero hz
    have HM:=hide hm
    have HNz:Hid ((namesE t).1=0):=by show _=_;rw [names_main HZ.out];exact hz
    clear hz hm HZ
    go_wp2_with fail
    rw [rounds_succ]
    go_wp2_with fail
    have HFu:Hid (Calls Tryz.prog 129 #[.pointer (some ⟨C,0,none⟩)] w6 fun e w'=>e = .returned (errV (bodiesE t 0 t.funcs).1 (bodiesE t 0 t.funcs).2.1 (bodiesE t 0 t.funcs).2.2) /\
   ∃g' v' bt' tk' fn' st',Cs {E with gf:=globF t.globals,ng:=ng5,gp:=g'} w' [] [] v' bt' tk' fn' st'/\((bodiesE t 0 t.funcs).1=0->fn' = -1/\st' = -1)):=by
     have h:=HC6.out
     have he:=HEe.out
     subst he
     exact functionsK (E := {w0:=w,C:=C,bg:=W4.heap.size+1,bn:=bn,nn:=t.funcs.length,D:=D,t:=t,vg:=.slice ag t.globals.length cg,vf:=.slice af t.funcs.length cf,gf:=globF t.globals,gp:=fun s=>decide (0<=globI t.globals s),ng:=ng5}) (g0:=fun _=>false) h hng5 rfl rfl (fun g hg=>(HOk.out.g g hg).2.1) (by show t.funcs.length<=_;omega) HOk.out.f
    refine HFu.out.mono ?_
    rintro e w7 ⟨rfl,g7,v7,bt7,tk7,fn7,st7,hc7,hi7⟩
    have hB7:Bl w w7:=by have:=hc7.base;rw [HEe.out] at this;exact this
    clear HC6 HFu hB6
    by_cases hz:(bodiesE t 0 t.funcs).1=0
    ·obtain ⟨rfl,rfl⟩:=hi7 hz
     rw [hz,errV_zero]
     have HC7:=hide hc7
     have HN7:Hid (RES=circE t m 0 t.funcs.length):=HRES.out.trans (check_circ HB.out HNz.out hz HM.out)
     clear hz hi7 hc7 HRES
     go_wp2_with fail
     rw [rounds_succ]
     go_wp2_with fail
     have HCi:Hid (Calls Tryz.prog 130 #[.pointer (some ⟨C,0,none⟩)] w7 fun e w'=>e = .returned (errV (circE t m 0 t.funcs.length).1 (circE t m 0 t.funcs.length).2.1 (circE t m 0 t.funcs.length).2.2)/\Bl w w'):=by
      have h:=HC7.out
      have he:=HEe.out
      subst he
      exact circlesK h m HM.out (by show t.funcs.length<=_;omega) HOk.out.wf HOk.out.sm
     refine HCi.out.mono ?_
     rintro e w8 ⟨rfl,hB8⟩
     rw [<-HN7.out]
     clear HC7 HCi hB7
     by_cases hz:RES.1=0
     ·rw [hz,errV_zero]
      have HZ8:=hide hz
      clear hz
      go_wp2_with fail
      rw [rounds_succ]
      go_wp2_with fail
      go_ret
      exact ⟨ret_val (by rw [HZ8.out];rfl),hB8⟩
     ·rw [errV_ne hz]
      have HZ8:=hide hz
      clear hz
      go_wp2_with fail
      go_ret
      exact ⟨ret_val (by rw [errV_ne HZ8.out];rfl),hB8⟩
    ·have HNe:Hid (RES=bodiesE t 0 t.funcs):=HRES.out.trans (check_bodies HB.out HNz.out hz)
     have HZ2:=hide hz
     rw [errV_ne hz]
     generalize bodiesE t 0 t.funcs=z at HNe HZ2 ⊢
     clear hz hi7 hc7
     go_wp2_with fail
     go_ret
     exact ⟨ret_val (by rw [HNe.out,errV_ne HZ2.out];rfl),hB7⟩
   ·have HNe:Hid (RES=(mainE t,-1,-1)):=by
     show _=_
     have:=names_main HZ.out
     rw [HRES.out,check_names HB.out (by rw [this];exact hz),this]
    have HZ2:=hide hz
    rw [errV_ne hz]
    generalize mainE t=z at HNe HZ2 ⊢
    clear hz
    go_wp2_with fail
    go_ret
    exact ⟨ret_val (by rw [HNe.out,errV_ne HZ2.out];rfl),hB6⟩
  ·have HNe:Hid (RES=topE t):=by
    show _=_
    have:=names_top hz
    rw [HRES.out,check_names HB.out (by rw [this];exact hz),this]
   have HZ2:=hide hz
   rw [errV_ne hz]
   generalize topE t=z at HNe HZ2 ⊢
   clear hz hi5 hc5
   go_wp2_with fail
   go_ret
   exact ⟨ret_val (by rw [HNe.out,errV_ne HZ2.out];rfl),hB5⟩
def resV (x:Int × Int × Int):Value:=.agg #[.int .i64 x.1,.int .i64 x.2.1,.int .i64 x.2.2]
open Classical in
theorem set3 {w:World} {b:Nat} {u0 u1 u2 y0 y1 y2:Value} (h0:w.cell? ⟨b,0,none⟩=some y0) (h1:w.cell? ⟨b,1,none⟩=some y1) (h2:w.cell? ⟨b,2,none⟩=some y2) :
  (((w.setCell ⟨b,0,none⟩ u0).setCell ⟨b,1,none⟩ u1).setCell ⟨b,2,none⟩ u2).cell? ⟨b,0,none⟩=some u0/\(((w.setCell ⟨b,0,none⟩ u0).setCell ⟨b,1,none⟩ u1).setCell ⟨b,2,none⟩ u2).cell? ⟨b,1,none⟩=some u1/\(((w.setCell ⟨b,0,none⟩ u0).setCell ⟨b,1,none⟩ u1).setCell ⟨b,2,none⟩ u2).cell? ⟨b,2,none⟩=some u2:=by
 have e1:(w.setCell ⟨b,0,none⟩ u0).cell? ⟨b,1,none⟩=some y1:=(World.cell?_setCell_other _ _ _ _ (off_ne (by decide))).trans h1
 have e2:((w.setCell ⟨b,0,none⟩ u0).setCell ⟨b,1,none⟩ u1).cell? ⟨b,2,none⟩=some y2:=(World.cell?_setCell_other _ _ _ _ (off_ne (by decide))).trans ((World.cell?_setCell_other _ _ _ _ (off_ne (by decide))).trans h2)
 exact ⟨(World.cell?_setCell_other _ _ _ _ (off_ne (by decide))).trans ((World.cell?_setCell_other _ _ _ _ (off_ne (by decide))).trans (World.cell?_setCell_same _ _ _ h0)),(World.cell?_setCell_other _ _ _ _ (off_ne (by decide))).trans (World.cell?_setCell_same _ _ _ e1),World.cell?_setCell_same _ _ _ e2⟩
theorem two_boxC {w W1:World} {x0 x1:Value} (h:W1=(w.alloc (.cells #[x0,x1] 32)).alloc (.cells #[.int .i64 0,.int .i64 0,.int .i64 0] 116)) :
  ∀W,Below (w.heap.size+2) W1 W->(W.cell? ⟨w.heap.size,0,none⟩=some x0/\W.cell? ⟨w.heap.size,1,none⟩=some x1)/\(W.cell? ⟨w.heap.size+1,0,none⟩=some (.int .i64 0)/\W.cell? ⟨w.heap.size+1,1,none⟩=some (.int .i64 0)/\W.cell? ⟨w.heap.size+1,2,none⟩=some (.int .i64 0))/\(∀o,W.frozen? ⟨w.heap.size+1,o,none⟩=false)/\Below w.heap.size w W/\w.heap.size+2<=W.heap.size:=by
 intro W hW
 have hA:Bl w W1:=by rw [h];exact (bel_a _ _).alloc (by simp) _
 have hs:W1.heap.size=w.heap.size+2:=by rw [h];simp
 have c : ∀o,W.cell? ⟨w.heap.size+1,o,none⟩=(#[.int .i64 0,.int .i64 0,.int .i64 0]:Array Value)[o]? := fun o=>(hW.cell (p:=⟨w.heap.size+1,o,none⟩) (by simp)).trans (by rw [h];exact World.cell?_alloc_at _ _ _ _ (by simp))
 have d : ∀o,W.cell? ⟨w.heap.size,o,none⟩=(#[x0,x1]:Array Value)[o]? := fun o=>(hW.cell (p:=⟨w.heap.size,o,none⟩) (by simp)).trans (by rw [h,World.cell?_alloc_lt _ _ ⟨w.heap.size,o,none⟩ (by simp)];exact World.cell?_alloc_at _ _ _ _ rfl)
 refine ⟨⟨d 0,d 1⟩,⟨c 0,c 1,c 2⟩,fun o => ?_,hA.trans (hW.mono o_),by have:=hW.size;omega⟩
 refine (hW.frozen (p:=⟨w.heap.size+1,o,none⟩) (by simp)).trans ?_
 rw [h]
 exact World.frozen?_alloc_at _ _ _ _ (by simp)
theorem l3names_any (t:Tr) (vg vf:Value) (w:World) (hgl:t.globals.length<=1000) (hfl:t.funcs.length<=1000) (hg:Globs w vg t.globals) (hf:Funcs w vf t.funcs) :
  Calls Tryz.prog 87 #[.agg #[vg,vf]] w fun e w'=>e = .returned (resV (namesE t))/\Below w.heap.size w w':=by
 obtain ⟨RES,hRES⟩ : ∃R,R=namesE t:=⟨_,rfl⟩
 rw [<-hRES]
 have HRES:=hide hRES
 have HF:Hid (Funcs w vf t.funcs):=hf
 obtain ⟨ag,cg,rfl,-,-,hgc⟩:=hg
 obtain ⟨af,cf,rfl,-,-,hfc⟩:=hf
 have HGC:=hide hgc
 have HFC:=hide hfc
 obtain ⟨i0,hi,hz0,hz1,hz2⟩:=info_parts info_str
 obtain ⟨W1,hW1⟩ : ∃W1,W1=(w.alloc (.cells #[.slice ag t.globals.length cg,.slice af t.funcs.length cf] 32)).alloc (.cells #[.int .i64 0,.int .i64 0,.int .i64 0] 116):=⟨_,rfl⟩
 have HBx:=hide (two_boxC hW1)
 have hs1:W1.heap.size=w.heap.size+2:=by rw [hW1];simp
 have HR0:Hid (SRow (w.heap.size+2) (W1.alloc (.cells #[] 9)) (.slice (some ⟨w.heap.size+1+1,0,none⟩) 0 0) []):=by
  have:=srow_lit W1 (w.heap.size+2) o_
  rw [hs1] at this
  exact this
 have HB0:Hid (Below (w.heap.size+2) W1 (W1.alloc (.cells #[] 9))):=(Below.refl _ _).alloc o_ _
 clear hRES hgc hfc
 go_enter Tryz.func87,Tryz.ntmps87
 go_wp2_with fail
 rw [<-hW1]
 clear hW1 hs1
 go_loopw [3,4] (fun sv i wr=>∃(k:Nat),k<=t.globals.length/\i = .int .i64 k/\SRow (w.heap.size+2) wr sv ((t.globals.take k).map (·.name))/\dupG [] t.globals=dupG ((t.globals.take k).map (·.name)) (t.globals.drop k)/\Below (w.heap.size+2) W1 wr) (fun _ i _=>t.globals.length-(RowKit.intOf i).toNat)
 case atStart=>exact ⟨0,Nat.zero_le _,rfl,by simpa using HR0.out,by simp,HB0.out⟩
 case round=>
  clear HR0 HB0
  obtain ⟨k,hk,rfl,hR,hd,hB⟩:=hrel
  obtain ⟨a3,c3,rfl⟩:=hR.shape
  have HR:=hide hR
  have HD:=hide hd
  obtain ⟨⟨x0,x1⟩,⟨r0,r1,r2⟩,rz,hBw,hsz⟩:=HBx.out wr hB
  have z0:=rz 0
  have z1:=rz 1
  have z2:=rz 2
  have hle:((t.globals.take k).map (·.name)).length=k:=by simp;omega
  rw [hle] at HR ⊢
  clear hR hd rz
  by_cases hlt:k<t.globals.length
  ·obtain ⟨b,off,rfl,hc⟩:=HGC.out o_
   obtain ⟨c0,-⟩:=(hc.below hBw) k hlt
   have hlb:b<wr.heap.size:=World.block_lt_of_cell? _ _ c0
   have HD2:Hid (dupG [] t.globals=dupG ((t.globals.take k).map (·.name)) (t.globals[k]::t.globals.drop (k+1))):=by show _=_;rw [HD.out,drop_cons_ _ _ hlt]
   have HTk:=hide (take_succ _ _ hlt)
   have HSt:=hide (HR.out.strs (by rw [hle];omega))
   clear hc HD
   generalize t.globals[k]=p at c0 HD2 HTk
   generalize hsn:(t.globals.take k).map (·.name)=seen at HR HD2 HSt hle
   have HSn:=hide hsn
   clear hsn
   have HIn:=hide (l3in_any _ _ p.name wr (by rw [hle];omega) HSt.out)
   go_wp2_with fail
   refine HIn.out.mono ?_
   rintro e w2 ⟨rfl,hb2⟩
   have hB2:Below (w.heap.size+2) W1 w2:=hB.trans (hb2.mono hsz)
   have d0:=(hb2.cell (p:=⟨b,off+k*2,none⟩) hlb).trans c0
   have HR2:Hid (SRow (w.heap.size+2) w2 (.slice a3 k c3) seen):=HR.out.below hb2
   clear x0 x1 r0 r1 r2 z0 z1 z2 c0 hB hBw hb2 HIn HSt HR
   obtain ⟨⟨x0,x1⟩,⟨r0,r1,r2⟩,rz,hBw,hsz2⟩:=HBx.out w2 hB2
   have z0:=rz 0
   have z1:=rz 1
   have z2:=rz 2
   clear rz
   cases hx:inS seen p.name with
   | true=>
    have HE:Hid (RES=(2,-1,-1)):=by
     show _=_
     rw [HRES.out]
     unfold namesE
     rw [if_pos (by rw [HD2.out];exact dupG_hit hx)]
    clear hx
    go_wp2_with fail
    obtain ⟨t0,t1,t2⟩:=set3 (u0:=.int .i64 2) (u1:=.int .i64 (-1)) (u2:=.int .i64 (-1)) r0 r1 r2
    refine bodyPost_ret (v:=.agg #[.int .i64 2,.int .i64 (-1),.int .i64 (-1)]) (by simp [results,Tryz.results87,go_sem,t0,t1,t2]) rfl ⟨ret_val (by rw [HE.out];rfl),?_⟩
    exact ((hBw.setCell (p:=⟨w.heap.size+1,0,none⟩) (by simp) _).setCell (p:=⟨w.heap.size+1,1,none⟩) (by simp) _).setCell (p:=⟨w.heap.size+1,2,none⟩) (by simp) _
   | false=>
    have HDn:Hid (dupG [] t.globals=dupG ((t.globals.take (k+1)).map (·.name)) (t.globals.drop (k+1))):=by show _=_;rw [HD2.out,dupG_step hx,HTk.out,<-HSn.out];simp
    have HNn:Hid (seen++[p.name]=(t.globals.take (k+1)).map (·.name)):=by show _=_;rw [HTk.out,<-HSn.out];simp
    clear hx
    go_wp2_with (at_builtin;refine wpList_appF rfl _ _ _ rfl (w.heap.size+2) 9 i0 _ 1 16 Tryz.underlying43 hi hz0 hz1 hz2 rfl (by decide) _ k (seen.map Value.string) rfl (by have:=HR2.out.below ((Below.refl _ _).alloc (Nat.le_refl _) (.cells #[.string p.name] 9));unfold SRow at this;rw [hle] at this;exact this) ⟨w2.heap.size,0,none⟩ 1 1 [.string p.name] rfl rfl (cell_one_new _ _ _) (by simp [Value.oneCell']) o_ (by decide) (by simp;omega) ?_)
    intro v9 w9 ho9 hg9 hf9
    have HR9:Hid (SRow (w.heap.size+2) w9 v9 ((t.globals.take (k+1)).map (·.name))):=by
     show World.ownsRow _ _ _ _ _ _ _
     rw [<-HNn.out,l_a,hle,List.map_append]
     exact ho9
    have hB9:Below (w.heap.size+2) W1 w9:=(hB2.alloc hsz2 _).grown hg9 (by simp;omega) (fun g hg=>(World.ownsRow.lt HR2.out g hg).1)
    obtain ⟨a9,c9,rfl⟩:=HR9.out.shape
    have hle9:((t.globals.take (k+1)).map (·.name)).length=k+1:=by simp;omega
    rw [hle9] at HR9 ⊢
    clear ho9 hg9 hf9 d0 x0 x1 r0 r1 r2 z0 z1 z2
    go_wp2_with fail
    go_roundw
    case rel=>exact ⟨k+1,by omega,by go_num,HR9.out,HDn.out,hB9⟩
    case measure=>simp [RowKit.intOf];omega
  ·have hkk:k=t.globals.length:=by omega
   subst hkk
   have HDG:Hid (dupG [] t.globals=false):=by show _=_;rw [HD.out];simp [dupG]
   have HRg:Hid (SRow (w.heap.size+2) wr (.slice a3 t.globals.length c3) (t.globals.map (·.name))):=by
    have:=HR.out
    rw [List.take_length] at this
    exact this
   clear HR HD hle r0 r1 r2 z0 z1 z2
   go_wp2_with fail
   clear x0 x1 hBw hsz
   go_loopw [3,5] (fun sv i w2=>∃(k:Nat),k<=t.funcs.length/\i = .int .i64 k/\SRow (w.heap.size+2) w2 sv (t.globals.map (·.name)++(t.funcs.take k).map (·.name))/\dupF (t.globals.map (·.name)) 0 t.funcs=dupF (t.globals.map (·.name)++(t.funcs.take k).map (·.name)) k (t.funcs.drop k)/\Below (w.heap.size+2) W1 w2) (fun _ i _=>t.funcs.length-(RowKit.intOf i).toNat)
   case atStart=>exact ⟨0,Nat.zero_le _,rfl,by simpa using HRg.out,by simp,hB⟩
   case round=>
    clear HRg hB
    obtain ⟨k,hk,rfl,hR,hd,hB⟩:=hrel
    obtain ⟨a3,c3,rfl⟩:=hR.shape
    have HR:=hide hR
    have HD:=hide hd
    obtain ⟨⟨x0,x1⟩,⟨r0,r1,r2⟩,rz,hBw,hsz⟩:=HBx.out wr hB
    have z0:=rz 0
    have z1:=rz 1
    have z2:=rz 2
    have hle:(t.globals.map (·.name)++(t.funcs.take k).map (·.name)).length=t.globals.length+k:=by simp;omega
    rw [hle] at HR ⊢
    clear hR hd rz
    by_cases hlt:k<t.funcs.length
    ·obtain ⟨b,off,rfl,hc⟩:=HFC.out o_
     obtain ⟨vp,vb,⟨c0,-⟩,-⟩:=(hc.below hBw) k hlt
     have hlb:b<wr.heap.size:=World.block_lt_of_cell? _ _ c0
     have HD2:Hid (dupF (t.globals.map (·.name)) 0 t.funcs=dupF (t.globals.map (·.name)++(t.funcs.take k).map (·.name)) k (t.funcs[k]::t.funcs.drop (k+1))):=by show _=_;rw [HD.out,drop_cons_ _ _ hlt]
     have HTk:=hide (take_succ _ _ hlt)
     have HSt:=hide (HR.out.strs (by rw [hle];omega))
     clear hc HD
     generalize t.funcs[k]=p at c0 HD2 HTk
     generalize hsn:t.globals.map (·.name)++(t.funcs.take k).map (·.name)=seen at HR HD2 HSt hle
     have HSn:=hide hsn
     clear hsn
     have HIn:=hide (l3in_any _ _ p.name wr (by rw [hle];omega) HSt.out)
     go_wp2_with fail
     refine HIn.out.mono ?_
     rintro e w2 ⟨rfl,hb2⟩
     have hB2:Below (w.heap.size+2) W1 w2:=hB.trans (hb2.mono hsz)
     have d0:=(hb2.cell (p:=⟨b,off+k*3,none⟩) hlb).trans c0
     have HR2:=hide (HR.out.below hb2)
     clear x0 x1 r0 r1 r2 z0 z1 z2 c0 hB hBw hb2 HIn HSt HR
     obtain ⟨⟨x0,x1⟩,⟨r0,r1,r2⟩,rz,hBw,hsz2⟩:=HBx.out w2 hB2
     have z0:=rz 0
     have z1:=rz 1
     have z2:=rz 2
     clear rz
     cases hx:inS seen p.name with
     | true=>
      have HE:Hid (RES=(2,(k:Int),-1)):=by
       show _=_
       rw [HRES.out]
       unfold namesE
       rw [if_neg (by rw [HDG.out];simp),HD2.out,dupF_hit hx]
      clear hx
      go_wp2_with fail
      obtain ⟨t0,t1,t2⟩:=set3 (u0:=.int .i64 2) (u1:=.int .i64 (k:Int)) (u2:=.int .i64 (-1)) r0 r1 r2
      refine bodyPost_ret (v:=.agg #[.int .i64 2,.int .i64 (k:Int),.int .i64 (-1)]) (by simp [results,Tryz.results87,go_sem,t0,t1,t2]) rfl ⟨ret_val (by rw [HE.out];rfl),?_⟩
      exact ((hBw.setCell (p:=⟨w.heap.size+1,0,none⟩) (by simp) _).setCell (p:=⟨w.heap.size+1,1,none⟩) (by simp) _).setCell (p:=⟨w.heap.size+1,2,none⟩) (by simp) _
     | false=>
      have HNn:Hid (seen++[p.name]=t.globals.map (·.name)++(t.funcs.take (k+1)).map (·.name)):=by show _=_;rw [HTk.out,<-HSn.out];simp
      have HDn:Hid (dupF (t.globals.map (·.name)) 0 t.funcs=dupF (t.globals.map (·.name)++(t.funcs.take (k+1)).map (·.name)) ((k+1:Nat):Int) (t.funcs.drop (k+1))):=by show _=_;rw [HD2.out,dupF_step hx,HNn.out];simp
      clear hx
      go_wp2_with (at_builtin;refine wpList_appF rfl _ _ _ rfl (w.heap.size+2) 9 i0 _ 1 16 Tryz.underlying43 hi hz0 hz1 hz2 rfl (by decide) _ (t.globals.length+k) (seen.map Value.string) rfl (by have:=HR2.out.below ((Below.refl _ _).alloc (Nat.le_refl _) (.cells #[.string p.name] 9));unfold SRow at this;rw [hle] at this;exact this) ⟨w2.heap.size,0,none⟩ 1 1 [.string p.name] rfl rfl (cell_one_new _ _ _) (by simp [Value.oneCell']) o_ (by decide) (by simp;omega) ?_)
      intro v9 w9 ho9 hg9 hf9
      have HR9:Hid (SRow (w.heap.size+2) w9 v9 (t.globals.map (·.name)++(t.funcs.take (k+1)).map (·.name))):=by
       show World.ownsRow _ _ _ _ _ _ _
       rw [<-HNn.out,l_a,hle,List.map_append]
       exact ho9
      have hB9:Below (w.heap.size+2) W1 w9:=(hB2.alloc hsz2 _).grown hg9 (by simp;omega) (fun g hg=>(World.ownsRow.lt HR2.out g hg).1)
      obtain ⟨a9,c9,rfl⟩:=HR9.out.shape
      have hle9:(t.globals.map (·.name)++(t.funcs.take (k+1)).map (·.name)).length=t.globals.length+k+1:=by simp;omega
      rw [hle9] at HR9 ⊢
      clear ho9 hg9 hf9 d0 x0 x1 r0 r1 r2 z0 z1 z2
      go_wp2_with fail
      go_roundw
      case rel=>exact ⟨k+1,by omega,by go_num,HR9.out,HDn.out,hB9⟩
      case measure=>simp [RowKit.intOf];omega
    ·have HDF:Hid (dupF (t.globals.map (·.name)) 0 t.funcs=none):=by
      show _=_
      have hkk:k=t.funcs.length:=by omega
      rw [HD.out,hkk,List.drop_length];rfl
     have HRm:Hid (RES=match fnum t.funcs mainS with | none=>(3,-1,-1) | some m=>if (t.funcs.getD m ⟨⟨#[]⟩,[],[]⟩).params.length>0 then (3,-1,-1) else (0,-1,-1)):=by
      show _=_
      rw [HRES.out]
      unfold namesE
      rw [if_neg (by rw [HDG.out];simp),HDF.out]
      rfl
     have HFu:Hid (Calls Tryz.prog 17 #[.agg #[.slice ag t.globals.length cg,.slice af t.funcs.length cf],.string ⟨#[109,97,105,110]⟩] wr fun e w'=>e = .returned (.int .i64 (fnumI t.funcs mainS))/\Bl wr w'):=l3func_any t.funcs _ _ mainS wr o_ (HF.out.below hBw)
     clear HR HD hle r0 r1 r2 z0 z1 z2
     go_wp2_with fail
     refine HFu.out.mono ?_
     rintro e w2 ⟨rfl,hb2⟩
     have hB2:Below (w.heap.size+2) W1 w2:=hB.trans (hb2.mono hsz)
     clear x0 x1 hB hBw hb2 HFu hsz
     obtain ⟨⟨x0,x1⟩,⟨r0,r1,r2⟩,rz,hBw,hsz2⟩:=HBx.out w2 hB2
     have z0:=rz 0
     have z1:=rz 1
     have z2:=rz 2
     clear rz
     cases hm:fnum t.funcs mainS with
     | none=>
      have HE:Hid (RES=(3,-1,-1)):=by show _=_;rw [HRm.out,hm]
      rw [fnumI_none hm]
      clear hm HRm
      go_wp2_with fail
      obtain ⟨t0,t1,t2⟩:=set3 (u0:=.int .i64 3) (u1:=.int .i64 (-1)) (u2:=.int .i64 (-1)) r0 r1 r2
      refine bodyPost_ret (v:=.agg #[.int .i64 3,.int .i64 (-1),.int .i64 (-1)]) (by simp [results,Tryz.results87,go_sem,t0,t1,t2]) rfl ⟨ret_val (by rw [HE.out];rfl),?_⟩
      exact ((hBw.setCell (p:=⟨w.heap.size+1,0,none⟩) (by simp) _).setCell (p:=⟨w.heap.size+1,1,none⟩) (by simp) _).setCell (p:=⟨w.heap.size+1,2,none⟩) (by simp) _
     | some m=>
      have hml:=fnum_lt hm
      obtain ⟨b,off,rfl,hc⟩:=HFC.out o_
      obtain ⟨vp,vb,⟨-,c1,-⟩,⟨ap,cp,rfl,-⟩,-⟩:=(hc.below hBw) m hml
      have he:t.funcs.getD m ⟨⟨#[]⟩,[],[]⟩=t.funcs[m]:=by simp [List.getD,hml]
      rw [fnumI_some hm]
      have HRm2:Hid (RES=if t.funcs[m].params.length>0 then (3,-1,-1) else (0,-1,-1)):=by show _=_;rw [HRm.out,hm];simp only;rw [he]
      clear hm HRm hc he
      generalize t.funcs[m].params.length=np at c1 HRm2
      by_cases hnp:0<np
      ·have HE:Hid (RES=(3,-1,-1)):=by show _=_;rw [HRm2.out,if_pos hnp]
       go_wp2_with fail
       obtain ⟨t0,t1,t2⟩:=set3 (u0:=.int .i64 3) (u1:=.int .i64 (-1)) (u2:=.int .i64 (-1)) r0 r1 r2
       refine bodyPost_ret (v:=.agg #[.int .i64 3,.int .i64 (-1),.int .i64 (-1)]) (by simp [results,Tryz.results87,go_sem,t0,t1,t2]) rfl ⟨ret_val (by rw [HE.out];rfl),?_⟩
       exact ((hBw.setCell (p:=⟨w.heap.size+1,0,none⟩) (by simp) _).setCell (p:=⟨w.heap.size+1,1,none⟩) (by simp) _).setCell (p:=⟨w.heap.size+1,2,none⟩) (by simp) _
      ·have HE:Hid (RES=(0,-1,-1)):=by show _=_;rw [HRm2.out,if_neg hnp]
       obtain rfl:np=0:=by omega
       go_wp2_with fail
       obtain ⟨t0,t1,t2⟩:=set3 (u0:=.int .i64 0) (u1:=.int .i64 (-1)) (u2:=.int .i64 (-1)) r0 r1 r2
       refine bodyPost_ret (v:=.agg #[.int .i64 0,.int .i64 (-1),.int .i64 (-1)]) (by simp [results,Tryz.results87,go_sem,t0,t1,t2]) rfl ⟨ret_val (by rw [HE.out];rfl),?_⟩
       exact ((hBw.setCell (p:=⟨w.heap.size+1,0,none⟩) (by simp) _).setCell (p:=⟨w.heap.size+1,1,none⟩) (by simp) _).setCell (p:=⟨w.heap.size+1,2,none⟩) (by simp) _
end Go.Proofs.YtnpidjamplmgjaaGreatDoor
