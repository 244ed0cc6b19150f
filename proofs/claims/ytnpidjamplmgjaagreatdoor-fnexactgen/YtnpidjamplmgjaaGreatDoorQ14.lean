import Derived.Test.YtnpidjamplmgjaaGreatDoorQ13
import Derived.StringKeys
import Derived.Maps.OwnOps
import Derived.Maps.OwnSet
import Derived.RegionTactic
import Derived.Deep.RegionLaw
set_option linter.unusedSectionVars false
variable [Inhabited Go.Proofs.YtnpidjamplmgjaaGreatDoor.Pick]
namespace Go.Proofs.YtnpidjamplmgjaaGreatDoor
open Go.RowKit
set_option linter.unusedVariables false
set_option linter.unusedSimpArgs false
set_option maxRecDepth 100000
set_option maxHeartbeats 16000000
def GlobsC (w:World) (b off:Nat) (gs:List Gl):Prop:=∀j (h:j<gs.length),w.cell? ⟨b,off+j*2,none⟩=some (.string gs[j].name)/\w.cell? ⟨b,off+j*2+1,none⟩=some (.int .i64 gs[j].size)
theorem GlobsC.below {w w':World} {b off:Nat} {gs:List Gl} (h:GlobsC w b off gs) (hb:Below w.heap.size w w'):GlobsC w' b off gs:=by
 intro j hj
 obtain ⟨c0,c1⟩:=h j hj
 have hlt:=World.block_lt_of_cell? _ _ c0
 exact ⟨(hb.cell (p:=⟨b,off+j*2,none⟩) hlt).trans c0,(hb.cell (p:=⟨b,off+j*2+1,none⟩) hlt).trans c1⟩
def Globs (w:World) (v:Value) (gs:List Gl):Prop:=∃a cap,v = .slice a gs.length cap/\gs.length<=cap/\cap<=9223372036854775807/\(0<gs.length->∃b off,a=some ⟨b,off,none⟩/\GlobsC w b off gs)
theorem Globs.below {w w':World} {v:Value} {gs:List Gl} (h:Globs w v gs) (hb:Below w.heap.size w w'):Globs w' v gs:=by
 obtain ⟨a,cap,rfl,hl,hm,h⟩:=h
 refine ⟨a,cap,rfl,hl,hm,fun h0 => ?_⟩
 obtain ⟨b,off,rfl,hc⟩:=h h0
 exact ⟨b,off,rfl,hc.below hb⟩
def FuncsC (w:World) (b off:Nat) (fs:List Fu):Prop:=∀j (h:j<fs.length),∃vp vb,(w.cell? ⟨b,off+j*3,none⟩=some (.string fs[j].name)/\w.cell? ⟨b,off+j*3+1,none⟩=some vp/\w.cell? ⟨b,off+j*3+2,none⟩=some vb)/\Strs w vp fs[j].params/\Stmts w vb fs[j].body
theorem FuncsC.below {w w':World} {b off:Nat} {fs:List Fu} (h:FuncsC w b off fs) (hb:Below w.heap.size w w'):FuncsC w' b off fs:=by
 intro j hj
 obtain ⟨vp,vb,⟨c0,c1,c2⟩,hp,hs⟩:=h j hj
 have hlt:=World.block_lt_of_cell? _ _ c0
 exact ⟨vp,vb,⟨(hb.cell (p:=⟨b,off+j*3,none⟩) hlt).trans c0,(hb.cell (p:=⟨b,off+j*3+1,none⟩) hlt).trans c1,(hb.cell (p:=⟨b,off+j*3+2,none⟩) hlt).trans c2⟩,hp.below hb,hs.below hb⟩
def Funcs (w:World) (v:Value) (fs:List Fu):Prop:=∃a cap,v = .slice a fs.length cap/\fs.length<=cap/\cap<=9223372036854775807/\(0<fs.length->∃b off,a=some ⟨b,off,none⟩/\FuncsC w b off fs)
theorem Funcs.below {w w':World} {v:Value} {fs:List Fu} (h:Funcs w v fs) (hb:Below w.heap.size w w'):Funcs w' v fs:=by
 obtain ⟨a,cap,rfl,hl,hm,h⟩:=h
 refine ⟨a,cap,rfl,hl,hm,fun h0 => ?_⟩
 obtain ⟨b,off,rfl,hc⟩:=h h0
 exact ⟨b,off,rfl,hc.below hb⟩
theorem box2 {w w':World} {t:TypeId} {x y:Value} (h:Below (w.heap.size+1) (w.alloc (.cells #[x,y] t)) w') :
  w'.cell? ⟨w.heap.size,0,none⟩=some x/\w'.cell? ⟨w.heap.size,1,none⟩=some y:=by
 refine ⟨?_,?_⟩ <;> (rw [h.cell (by simp)];simp)
theorem vglob_any (g:Gl) (w:World):Calls Tryz.prog 152 #[.agg #[.string g.name,.int .i64 g.size]] w fun e w'=>e = .returned (.bool (globB g))/\Below w.heap.size w w':=by
 obtain ⟨s,z⟩:=g
 simp only
 go_enter Tryz.func152,Tryz.ntmps152
 go_wp2_with fail
 refine (vname_any _ _).mono ?_
 rintro e w1 ⟨rfl,hb1⟩
 simp only [World.size_alloc] at hb1
 have hB1:=one_below hb1
 obtain ⟨x0,x1⟩:=box2 hb1
 cases hn:nameB s
 ·go_wp2_with fail
  go_ret
  exact ⟨ret_bool (by simp only [globB,hn,Bool.false_and]),hB1⟩
 by_cases h0:z<0
 ·go_wp2_with fail
  go_ret
  exact ⟨ret_bool (by simp only [globB,hn];simp;omega),hB1⟩
 ·go_wp2_with fail
  go_ret
  refine ⟨ret_bool ?_,hB1⟩
  simp only [globB,hn,Bool.true_and]
  apply Bool.eq_iff_iff.2
  simp <;> omega
theorem vtree_any (t:Tr) (vg vf:Value) (w:World) (hT:Tab w) (ht:smallT t) (hg:Globs w vg t.globals) (hf:Funcs w vf t.funcs) :
  Calls Tryz.prog 125 #[.agg #[vg,vf]] w fun e w'=>e = .returned (.bool (treeB t))/\Below w.heap.size w w':=by
 obtain ⟨gs,fs⟩:=t
 simp only at hg hf ⊢
 have HT:=hide hT
 have HS:=hide ht
 have hgl:gs.length<=1048576:=HS.out.1
 have hfl:fs.length<=1048576:=HS.out.2.1
 obtain ⟨ag,cg,rfl,-,-,hgc⟩:=hg
 obtain ⟨af,cf,rfl,-,-,hfc⟩:=hf
 have HGC:=hide hgc
 have HFC:=hide hfc
 clear hgc hfc ht hT
 by_cases h5:50<gs.length
 ·go_enter Tryz.func125,Tryz.ntmps125
  go_wp2_with fail
  go_ret
  exact ⟨ret_bool (by simp only [treeB,decide_eq_false (show ¬gs.length<=50 by omega),Bool.false_and]),(Below.refl _ _).alloc (Nat.le_refl _) _⟩
 by_cases h6:50<fs.length
 ·go_enter Tryz.func125,Tryz.ntmps125
  go_wp2_with fail
  go_ret
  exact ⟨ret_bool (by simp only [treeB,decide_eq_false (show ¬fs.length<=50 by omega),Bool.false_and,Bool.and_false]),(Below.refl _ _).alloc (Nat.le_refl _) _⟩
 have HTB:Hid (treeB ⟨gs,fs⟩=(gs.all globB && fs.all funcB)):=by
  show _=_
  simp only [treeB,decide_eq_true (show gs.length<=50 by omega),decide_eq_true (show fs.length<=50 by omega),Bool.true_and]
 go_enter Tryz.func125,Tryz.ntmps125
 go_wp2_with fail
 go_loopw [20] (fun i wr=>∃k:Nat,k<=gs.length/\i = .int .i64 k/\(∀g∈gs.take k,globB g=true)/\Below (w.heap.size+1) (w.alloc (.cells #[.slice ag gs.length cg,.slice af fs.length cf] 32)) wr) (fun i _=>gs.length-(RowKit.intOf i).toNat)
 case atStart=>exact ⟨0,Nat.zero_le _,rfl,by simp,Below.refl _ _⟩
 case round=>
  obtain ⟨k,hk,rfl,hg,hB⟩:=hrel
  have HG:=hide hg
  clear hg
  have hBw:=one_below hB
  by_cases hlt:k<gs.length
  ·obtain ⟨b,off,rfl,hc⟩:=HGC.out o_
   obtain ⟨d0,d1⟩:=(hc.below hBw) k hlt
   have HE:Hid (gs.take (k+1)=gs.take k++[gs[k]]):=take_succ gs k hlt
   have HX:Hid (globB gs[k]=false->gs.all globB=false):=allG_bad hlt
   clear hc
   generalize gs[k]=g at d0 d1 HE HX
   go_wp2_with fail
   refine (vglob_any g _).mono ?_
   rintro e w2 ⟨rfl,hb2⟩
   have hB2:=(hB.alloc (by have:=hB.size;simp at this;omega) (.cells #[.string g.name,.int .i64 g.size] 90)).trans (hb2.mono (by have:=hB.size;simp at this;simp;omega))
   clear d0 d1
   cases hv:globB g
   ·go_wp2_with fail
    go_ret
    exact ⟨ret_bool (by rw [HTB.out,HX.out hv];rfl),one_below hB2⟩
   ·go_wp2_with fail
    go_roundw
    case rel=>
     refine ⟨k+1,by omega,by go_num,fun m hm => ?_,hB2⟩
     rw [HE.out] at hm
     rcases List.mem_append.1 hm with hm | hm
     ·exact HG.out m hm
     ·rw [List.mem_singleton.1 hm];exact hv
    case measure=>simp [RowKit.intOf];omega
  ·have HA:Hid (gs.all globB=true):=by
    show _=_
    rw [List.all_eq_true]
    have:=HG.out
    rw [List.take_of_length_le o_] at this
    exact this
   clear HG HGC
   obtain ⟨x0,x1⟩:=box2 hB
   go_wp2_with fail
   clear x0 x1
   go_loopw [31] (fun i wr=>∃k:Nat,k<=fs.length/\i = .int .i64 k/\(∀f∈fs.take k,funcB f=true)/\Below (w.heap.size+1) (w.alloc (.cells #[.slice ag gs.length cg,.slice af fs.length cf] 32)) wr) (fun i _=>fs.length-(RowKit.intOf i).toNat)
   case atStart=>exact ⟨0,Nat.zero_le _,rfl,by simp,hB⟩
   case round=>
    clear hB hBw hlt
    obtain ⟨k,hk,rfl,hg,hB⟩:=hrel
    have HG:=hide hg
    clear hg
    have hBw:=one_below hB
    by_cases hlt:k<fs.length
    ·obtain ⟨b,off,rfl,hc⟩:=HFC.out o_
     obtain ⟨vp,vb,⟨d0,d1,d2⟩,hp,hs⟩:=(hc.below hBw) k hlt
     have HE:Hid (fs.take (k+1)=fs.take k++[fs[k]]):=take_succ fs k hlt
     have HX:Hid (funcB fs[k]=false->fs.all funcB=false):=allF_bad hlt
     have HSM:Hid (smallF fs[k]):=HS.out.2.2 fs[k] (List.getElem_mem hlt)
     clear hc
     generalize fs[k]=f at d0 d1 d2 HE HX HSM hp hs
     have HP:=hide hp
     have HB:=hide hs
     obtain ⟨a2,k2,rfl,-,-,-⟩:=hp
     obtain ⟨a3,k3,rfl,-,-,-⟩:=hs
     have hBx:Bl wr (wr.alloc (.cells #[.string f.name,.slice a2 f.params.length k2,.slice a3 f.body.length k3] 64)):=bel_a _ _
     go_wp2_with fail
     refine (vfunc_any f _ _ _ ((HT.out.below HT.out.size hBw).below (HT.out.below HT.out.size hBw).size hBx) HSM.out (HP.out.below hBx) (HB.out.below hBx)).mono ?_
     rintro e w2 ⟨rfl,hb2⟩
     have hBx2:=hBx.trans (hb2.mono hBx.size)
     have hB2:=hB.trans (hBx2.mono (by have:=hB.size;simp at this;omega))
     clear d0 d1 d2 hb2
     cases hv:funcB f
     ·go_wp2_with fail
      go_ret
      exact ⟨ret_bool (by rw [HTB.out,HX.out hv];simp),one_below hB2⟩
     ·go_wp2_with fail
      go_roundw
      case rel=>
       refine ⟨k+1,by omega,by go_num,fun m hm => ?_,hB2⟩
       rw [HE.out] at hm
       rcases List.mem_append.1 hm with hm | hm
       ·exact HG.out m hm
       ·rw [List.mem_singleton.1 hm];exact hv
      case measure=>simp [RowKit.intOf];omega
    ·have HA2:Hid (fs.all funcB=true):=by
      show _=_
      rw [List.all_eq_true]
      have:=HG.out
      rw [List.take_of_length_le o_] at this
      exact this
     go_wp2_with fail
     go_ret
     exact ⟨ret_bool (by rw [HTB.out,HA.out,HA2.out];rfl),hBw⟩
theorem map_below {P:Program} {k:TypeId} {R:Value->Option (DataW Unit × List MemPlace)} {w w':World} {b n:Nat} {D:DataW Unit} (h:w.ownsMap P k R b n D) (hb:Below w.heap.size w w'):w'.ownsMap P k R b n D:=by
 have hlt:=h.lt
 obtain ⟨es,clock,h0,F,hs,hD⟩:=h
 exact ⟨es,clock,(hb.block b hlt).trans h0,F,hs,hD⟩
theorem look_num {W:World} {b nn:Nat} {D:DataW Unit} {fs:List Fu} (hown:W.ownsMap Tryz.prog 9 (plainElem (H:=Unit) Tryz.prog 2) b nn D) (hN:NumIs D fs) {s:ByteArray} (hs:s.size<=maxLen) {g:Nat} (h:fnum fs s=some g) :
  (Instr.lookup 52 (.map (some b)) (.string s) true).run Tryz.prog W = .ok (.tuple #[.int .i64 (g:Int),.bool true]) W:=by
 obtain ⟨v,ps,hrun,hv⟩:=hown.look_ok (Maps.string_keyed Tryz.underlying9) Tryz.underlying52 (Tryz.zeroValue2 _) (plainElem_int Tryz.underlying2 (by decide)) (WideMaps.keyOf_string_mk Tryz.underlying9 hs)
 rw [hN.val s g h] at hv
 obtain ⟨c,rfl,hc,_⟩:=plainElem_int_inv Tryz.underlying2 hv
 simp only [Prod.mk.injEq,DataW.lit.injEq,Lit.int.injEq,true_and] at hc
 obtain ⟨hc,-⟩:=hc
 subst hc
 have hh:=hN.has s
 rw [h] at hh
 rw [hh] at hrun
 exact hrun
theorem look_no {W:World} {b nn:Nat} {D:DataW Unit} {fs:List Fu} (hown:W.ownsMap Tryz.prog 9 (plainElem (H:=Unit) Tryz.prog 2) b nn D) (hN:NumIs D fs) {s:ByteArray} (hs:s.size<=maxLen) (h:fnum fs s=none) :
  (Instr.lookup 52 (.map (some b)) (.string s) true).run Tryz.prog W = .ok (.tuple #[.int .i64 0,.bool false]) W:=by
 obtain ⟨v,ps,hrun,hv⟩:=hown.look_ok (Maps.string_keyed Tryz.underlying9) Tryz.underlying52 (Tryz.zeroValue2 _) (plainElem_int Tryz.underlying2 (by decide)) (WideMaps.keyOf_string_mk Tryz.underlying9 hs)
 have hh:=hN.has s
 rw [h] at hh
 rw [Maps.atKey_of_not_has hh] at hv
 obtain ⟨c,rfl,hc,_⟩:=plainElem_int_inv Tryz.underlying2 hv
 simp only [Prod.mk.injEq,DataW.lit.injEq,Lit.int.injEq,true_and] at hc
 obtain ⟨hc,-⟩:=hc
 subst hc
 rw [hh] at hrun
 exact hrun
theorem fnums_any (fs:List Fu) (vg vf:Value) (w:World) (hl:fs.length<=1048576) (hw:wfFs fs) (hf:Funcs w vf fs) :
  Calls Tryz.prog 24 #[.agg #[vg,vf]] w fun e w'=>∃b D,e = .returned (.map (some b))/\w.heap.size<=b/\w'.ownsMap Tryz.prog 9 (plainElem (H:=Unit) Tryz.prog 2) b fs.length D/\NumIs D fs/\Below w.heap.size w w':=by
 obtain ⟨af,cf,rfl,-,-,hfc⟩:=hf
 have HFC:=hide hfc
 have HW:=hide hw
 clear hfc hw
 have hmm := @run_makeMap Tryz.prog
 go_enter Tryz.func24,Tryz.ntmps24
 go_wp2_with fail
 go_loopw [12] (fun i wr=>∃(k:Nat) (D:DataW Unit),k<=fs.length/\i = .int .i64 k/\wr.ownsMap Tryz.prog 9 (plainElem (H:=Unit) Tryz.prog 2) (w.heap.size+1) k D/\NumIs D (fs.take k)/\Bl w wr) (fun i _=>fs.length-(RowKit.intOf i).toNat)
 case atStart=>exact ⟨0,.map [],Nat.zero_le _,rfl,by simpa using World.ownsMap_made (w.alloc _) Tryz.prog 9 _,NumIs.nil,(bel_a _ _).alloc (by simp) _⟩
 case round=>
  obtain ⟨k,D,hk,rfl,hM,hN,hB⟩:=hrel
  have HM:Hid (wr.ownsMap Tryz.prog 9 (plainElem (H:=Unit) Tryz.prog 2) (w.heap.size+1) k D):=hM
  have HN:=hide hN
  have hlt0:=hM.lt
  clear hM hN hmm
  by_cases hlt:k<fs.length
  ·obtain ⟨b,off,rfl,hc⟩:=HFC.out o_
   obtain ⟨vp,vb,⟨d0,d1,d2⟩,⟨ap,cp,rfl,-⟩,⟨ab,cb,rfl,-⟩⟩:=(hc.below hB) k hlt
   generalize fs[k].params.length=np at d1
   generalize fs[k].body.length=nb at d2
   have HE:Hid (fs.take (k+1)=fs.take k++[fs[k]]):=take_succ fs k hlt
   have HZ:Hid (fs[k].name.size<=maxLen):=by
    have:=(HW.out.2 fs[k] (List.getElem_mem hlt)).1
    show _<=_
    unfold maxLen;omega
   have HTl:Hid ((fs.take k).length=k):=by show _=_;simp;omega
   clear hc
   generalize fs[k]=f at d0 d1 d2 HE HZ
   have HMa:Hid ((wr.alloc (.cells #[.string f.name,.slice ap np cp,.slice ab nb cb] 64)).ownsMap Tryz.prog 9 (plainElem (H:=Unit) Tryz.prog 2) (w.heap.size+1) k D):=HM.out.alloc _
   cases hv:fnum (fs.take k) f.name with
   | none=>
    have hlook:=look_no HMa.out HN.out HZ.out hv
    have HV:Hid (Maps.has D (kS f.name)=false):=by show _=_;rw [HN.out.has,hv];rfl
    clear hv
    go_wp2_with (first
     | (at_mapUpdate;refine wpList_mapUpdate_own _ rfl _ _ _ 52 rfl 9 2 (Maps.string_keyed Tryz.underlying9) Tryz.underlying52 _ (w.heap.size+1) k D rfl HMa.out (by unfold maxLen;omega) _ _ _ rfl rfl (WideMaps.keyOf_string_mk Tryz.underlying9 HZ.out) _ [] (plainElem_int Tryz.underlying2 (WalkArith.wf_i64 o_)) ?_;intro w1 hown1 hgrow1)
     | go_in)
    have HM1:=hide hown1
    have HN1:Hid (NumIs (D.put (kS f.name) (.lit (.int .i64 (k:Int)))) (fs.take (k+1))):=by
     have:=HN.out.new HV.out
     rw [HTl.out] at this
     rw [HE.out]
     exact this
    have hB1:Bl w w1:=(hB.alloc hB.size _).grown hgrow1 (by have:=hB.size;simp;omega) (fun j hj=>by cases hj;omega)
    clear hown1 hgrow1
    go_wp2_with fail
    go_roundw
    case rel=>exact ⟨k+1,_,by omega,by go_num,HM1.out,HN1.out,hB1⟩
    case measure=>simp [RowKit.intOf];omega
   | some g=>
    have hlook:=look_num HMa.out HN.out HZ.out hv
    have HV:Hid (Maps.has D (kS f.name)=true):=by show _=_;rw [HN.out.has,hv];rfl
    clear hv
    go_wp2_with fail
    go_roundw
    case rel=>exact ⟨k+1,D,by omega,by go_num,HMa.out.mono o_,by rw [HE.out];exact HN.out.old HV.out,hB.alloc hB.size _⟩
    case measure=>simp [RowKit.intOf];omega
  ·have hkk:k=fs.length:=by omega
   have HR:Hid (NumIs D fs):=by have:=HN.out;rw [List.take_of_length_le o_] at this;exact this
   go_wp2_with fail
   go_ret
   exact ⟨_,D,rfl,by omega,by rw [<-hkk];exact HM.out,HR.out,hB⟩
def regTab:List Int:=[5,6,7,28,29]
def binTab:List Int:=[31,32,33,21,22,23,28,0,0,0,0,0,0,30,26,29]
structure TabG (w:World):Prop where
 reg : ∀j,j<5->w.cell? ⟨0,j,none⟩=some (.int .i64 (regTab.getD j 0))
 bin : ∀j,j<16->w.cell? ⟨3,j,none⟩=some (.int .i64 (binTab.getD j 0))
structure AddrIs (D:DataW Unit) (gs:List Gl):Prop where
 map:Maps.IsMap D
 val : ∀s,s∈gs.map (·.name)->D.atKey (kS s) (.lit (.int .i64 0)) = .lit (.int .i64 (globA gs s 1048576))
def cI (vo:Value) (pl sz:Int) (vm va:Value) (l en:Int):Nat->Value:=fun j=>if j=0 then vo else if j=1 then .int .i64 pl else if j=2 then .int .i64 sz else if j=3 then vm else if j=4 then va else if j=6 then .int .i64 l else .int .i64 en
structure IC where
 w0:World
 P:Nat
 S:Nat->Prop
 bo:Nat
 bm:Nat
 ba:Nat
 sz:Int
 en:Int
 t:Tr
 ns:List ByteArray
structure IC.Ok (C:IC):Prop where
 so:C.S C.bo
 sm:C.S C.bm
 sa:C.S C.ba
 sr:C.S 0
 sb:C.S 3
 tab:TabG C.w0
 mo : ∃nn D,C.w0.ownsMap Tryz.prog 9 (plainElem (H:=Unit) Tryz.prog 2) C.bo nn D/\NamesIs D C.ns
 mm : ∃nn D,C.w0.ownsMap Tryz.prog 9 (plainElem (H:=Unit) Tryz.prog 2) C.bm nn D/\NumIs D C.t.funcs
 ma : ∃nn D,C.w0.ownsMap Tryz.prog 9 (plainElem (H:=Unit) Tryz.prog 2) C.ba nn D/\AddrIs D C.t.globals
 gl:C.t.globals.length<=50
 gz : ∀g∈C.t.globals,0<=g.size/\g.size<=4000
 nl:C.ns.length<=1000
def IC.E (C:IC):GEnv:=⟨C.ns.length,locN C.ns,fun s=>globA C.t.globals s 1048576,fnumG C.t.funcs⟩
structure Gi (C:IC) (w:World) (its:List It) (l:Int):Prop where
 es:Em 70 5 8 C.P w its (cI (.map (some C.bo)) (4*(C.ns.length:Int)) C.sz (.map (some C.bm)) (.map (some C.ba)) l C.en)
 kp : ∀B,C.S B->w.heap[B]? = C.w0.heap[B]?
 ap : ∀B,C.S B->B<w.heap.size/\B≠C.P/\some B≠rbq 5 w C.P
theorem Gi.wq {C:IC} {w w':World} {its its':List It} {l l':Int} (h:Gi C w its l) (he:Em 70 5 8 C.P w' its' (cI (.map (some C.bo)) (4*(C.ns.length:Int)) C.sz (.map (some C.bm)) (.map (some C.ba)) l' C.en)) (hW:Wq 5 C.P w w'):Gi C w' its' l':=by
 refine ⟨he,fun B hB => ?_,fun B hB => ?_⟩
 ·obtain ⟨h1,h2,h3⟩:=h.ap B hB
  rw [hW.block B h1 h2 h3]
  exact h.kp B hB
 ·obtain ⟨h1,h2,h3⟩:=h.ap B hB
  refine ⟨Nat.lt_of_lt_of_le h1 hW.size,h2,fun e => ?_⟩
  rcases hW.row B e.symm with h | h
  ·exact h3 h.symm
  ·omega
theorem Gi.below {C:IC} {w w':World} {its:List It} {l:Int} (h:Gi C w its l) (hb:Below w.heap.size w w'):Gi C w' its l:=h.wq (h.es.below hb) (Wq.below h.es.lt hb)
theorem Gi.cell {C:IC} {w:World} {its:List It} {l:Int} (h:Gi C w its l) {B o:Nat} {v:Value} (hB:C.S B) (hc:C.w0.cell? ⟨B,o,none⟩=some v):w.cell? ⟨B,o,none⟩=some v:=(World.cell?_of_block (a:=⟨B,o,none⟩) (h.kp B hB)).trans hc
structure Wi (C:IC) (w:World) (its new:List It) (l':Int) (w':World):Prop where
 gs:Gi C w' (its++new) l'
 wq:Wq 5 C.P w w'
theorem Wi.trans {C:IC} {w w1 w2:World} {its a b:List It} {l l':Int} (h:Wi C w its a l w1) (h':Wi C w1 (its++a) b l' w2):Wi C w its (a++b) l' w2:=⟨by rw [<-List.append_assoc];exact h'.gs,h.wq.trans h'.wq⟩
theorem Wi.pre {C:IC} {w w1 w2:World} {its a:List It} {l:Int} (h:Wi C w1 its a l w2) (hb:Wq 5 C.P w w1):Wi C w its a l w2:=⟨h.gs,hb.trans h.wq⟩
theorem Wi.preB {C:IC} {w w1 w2:World} {its its0 a:List It} {l l0:Int} (hG:Gi C w its0 l0) (hb:Below w.heap.size w w1) (h:Wi C w1 its a l w2):Wi C w its a l w2:=h.pre (Wq.below hG.es.lt hb)
theorem Wi.nil {C:IC} {w:World} {its:List It} {l:Int} (h:Gi C w its l):Wi C w its [] l w:=⟨by rw [List.append_nil];exact h,Wq.refl _ _ _⟩
theorem Wi.bel {C:IC} {w w1 w2:World} {its a:List It} {l:Int} (h:Wi C w its a l w1) (hb:Below w1.heap.size w1 w2):Wi C w its a l w2:=⟨h.gs.below hb,h.wq.trans (Wq.below h.gs.es.lt hb)⟩
theorem Wi.of {C:IC} {w w':World} {its new:List It} {l l':Int} (h:Gi C w its l) (he:Em 70 5 8 C.P w' (its++new) (cI (.map (some C.bo)) (4*(C.ns.length:Int)) C.sz (.map (some C.bm)) (.map (some C.ba)) l' C.en)) (hW:Wq 5 C.P w w'):Wi C w its new l' w':=⟨h.wq he hW,hW⟩
theorem Gi.reg {C:IC} (hC:C.Ok) {w:World} {its:List It} {l:Int} (h:Gi C w its l) (j:Nat) (hj:j<5):w.cell? ⟨0,j,none⟩=some (.int .i64 (regTab.getD j 0)):=h.cell hC.sr (hC.tab.reg j hj)
theorem Gi.bin {C:IC} (hC:C.Ok) {w:World} {its:List It} {l:Int} (h:Gi C w its l) (j:Nat) (hj:j<16):w.cell? ⟨3,j,none⟩=some (.int .i64 (binTab.getD j 0)):=h.cell hC.sb (hC.tab.bin j hj)
theorem IC.glob_bd {C:IC} (hC:C.Ok) (s:ByteArray):1048576<=C.E.glob s/\C.E.glob s<=2000000:=by
 have h:=globA_bd C.t.globals s hC.gz 1048576
 have:=hC.gl
 show 1048576<=globA C.t.globals s 1048576/\globA C.t.globals s 1048576<=2000000
 omega
theorem Gi.addr {C:IC} (hC:C.Ok) {w:World} {its:List It} {l:Int} (h:Gi C w its l) {s:ByteArray} (hs:s.size<=maxLen) (hm:s∈C.t.globals.map (·.name)) :
  (Instr.lookup 52 (.map (some C.ba)) (.string s) false).run Tryz.prog w = .ok (.int .i64 (C.E.glob s)) w:=by
 obtain ⟨nn,D,ho,hN⟩:=hC.ma
 have ho':w.ownsMap Tryz.prog 9 (plainElem (H:=Unit) Tryz.prog 2) C.ba nn D:=own_blk ho (h.kp _ hC.sa)
 obtain ⟨c,hrun,hat,-⟩:=ho'.lookup_int (key:=.string s) (Maps.string_keyed Tryz.underlying9) Tryz.underlying52 Tryz.underlying2 (Tryz.zeroValue2 _) (WideMaps.keyOf_string_mk Tryz.underlying9 hs)
 have hv:=hN.val s hm
 unfold kS at hv
 rw [hv] at hat
 simp only [DataW.lit.injEq,Lit.int.injEq,true_and] at hat
 rw [<-hat] at hrun
 exact hrun
theorem Gi.num {C:IC} (hC:C.Ok) {w:World} {its:List It} {l:Int} (h:Gi C w its l) {s:ByteArray} (hs:s.size<=maxLen) {i:Nat} (hm:fnum C.t.funcs s=some i) :
  (Instr.lookup 52 (.map (some C.bm)) (.string s) false).run Tryz.prog w = .ok (.int .i64 (C.E.fn s)) w:=by
 obtain ⟨nn,D,ho,hN⟩:=hC.mm
 have ho':w.ownsMap Tryz.prog 9 (plainElem (H:=Unit) Tryz.prog 2) C.bm nn D:=own_blk ho (h.kp _ hC.sm)
 obtain ⟨c,hrun,hat,-⟩:=ho'.lookup_int (key:=.string s) (Maps.string_keyed Tryz.underlying9) Tryz.underlying52 Tryz.underlying2 (Tryz.zeroValue2 _) (WideMaps.keyOf_string_mk Tryz.underlying9 hs)
 have hv:=hN.val s i hm
 unfold kS at hv
 rw [hv] at hat
 simp only [DataW.lit.injEq,Lit.int.injEq,true_and] at hat
 have e:C.E.fn s=c:=by
  show fnumG C.t.funcs s=c
  unfold fnumG
  rw [hm]
  exact hat
 rw [e]
 exact hrun
theorem locN_mem {ns:List ByteArray} {s:ByteArray}:locN ns s=none↔s∉ns:=by
 unfold locN
 rw [Option.map_eq_none_iff,List.findIdx?_eq_none_iff]
 constructor
 ·intro h hm
  have:=h s hm
  simp at this
 ·intro h x hx
  simp only [decide_eq_false_iff_not]
  intro e
  exact h (e ▸ hx)
theorem Gi.loc {C:IC} (hC:C.Ok) {w:World} {its:List It} {l:Int} (h:Gi C w its l) {s:ByteArray} (hs:s.size<=maxLen) {z:Int} (hm:C.E.loc s=some z) :
  (Instr.lookup 52 (.map (some C.bo)) (.string s) true).run Tryz.prog w = .ok (.tuple #[.int .i64 z,.bool true]) w:=by
 obtain ⟨nn,D,ho,hN⟩:=hC.mo
 have ho':w.ownsMap Tryz.prog 9 (plainElem (H:=Unit) Tryz.prog 2) C.bo nn D:=own_blk ho (h.kp _ hC.so)
 obtain ⟨v,ps,hrun,hv⟩:=ho'.look_ok (Maps.string_keyed Tryz.underlying9) Tryz.underlying52 (Tryz.zeroValue2 _) (plainElem_int Tryz.underlying2 (by decide)) (WideMaps.keyOf_string_mk Tryz.underlying9 hs)
 have hm':locN C.ns s=some z:=hm
 have hin:s∈C.ns:=by
  by_cases hh:s∈C.ns
  ·exact hh
  ·rw [locN_mem.2 hh] at hm';cases hm'
 unfold locN at hm'
 obtain ⟨i,hi,hz⟩:=Option.map_eq_some_iff.1 hm'
 have hva:=hN.val s i hi
 unfold kS at hva
 rw [hva] at hv
 obtain ⟨c,rfl,hc,_⟩:=plainElem_int_inv Tryz.underlying2 hv
 simp only [Prod.mk.injEq,DataW.lit.injEq,Lit.int.injEq,true_and] at hc
 obtain ⟨hc,-⟩:=hc
 subst hc
 have hh:=(hN.has s).2 hin
 unfold kS at hh
 rw [hh,hz] at hrun
 exact hrun
theorem Gi.noloc {C:IC} (hC:C.Ok) {w:World} {its:List It} {l:Int} (h:Gi C w its l) {s:ByteArray} (hs:s.size<=maxLen) (hm:C.E.loc s=none) :
  (Instr.lookup 52 (.map (some C.bo)) (.string s) true).run Tryz.prog w = .ok (.tuple #[.int .i64 0,.bool false]) w:=by
 obtain ⟨nn,D,ho,hN⟩:=hC.mo
 have ho':w.ownsMap Tryz.prog 9 (plainElem (H:=Unit) Tryz.prog 2) C.bo nn D:=own_blk ho (h.kp _ hC.so)
 obtain ⟨v,ps,hrun,hv⟩:=ho'.look_ok (Maps.string_keyed Tryz.underlying9) Tryz.underlying52 (Tryz.zeroValue2 _) (plainElem_int Tryz.underlying2 (by decide)) (WideMaps.keyOf_string_mk Tryz.underlying9 hs)
 have hout:s∉C.ns:=locN_mem.1 hm
 have hh:Maps.has D (kS s)=false:=by
  have:=mt (hN.has s).1 hout
  simpa using this
 unfold kS at hh
 rw [Maps.atKey_of_not_has hh] at hv
 obtain ⟨c,rfl,hc,_⟩:=plainElem_int_inv Tryz.underlying2 hv
 simp only [Prod.mk.injEq,DataW.lit.injEq,Lit.int.injEq,true_and] at hc
 obtain ⟨hc,-⟩:=hc
 subst hc
 rw [hh] at hrun
 exact hrun
theorem row_slice {w:World} {B t z:Nat} {v:Value} {n:Nat} {xs:List Value} (h:w.ownsRow B t z v n xs) : ∃va vn vc,v = .slice va vn vc:=by
 rcases h.2 with ⟨rfl,_⟩ | ⟨g,cap,cur,rfl,_⟩
 ·exact ⟨_,_,_,rfl⟩
 ·exact ⟨_,_,_,rfl⟩
theorem putE_any (P:Nat) (its:List It) (c:Nat->Value) (op rd s1 s2 im:Int) (w:World) (hO:Em 70 5 8 P w its c) (hl:its.length<=9000000) :
  Calls Tryz.prog 48 #[.pointer (some ⟨P,0,none⟩),.agg #[.int .i64 op,.int .i64 rd,.int .i64 s1,.int .i64 s2,.int .i64 im]] w fun e w'=>(∃u,e = .returned u)/\Em 70 5 8 P w' (its++[insI op rd s1 s2 im]) c/\Wq 5 P w w':=by
 have hlt:=hO.lt
 obtain ⟨v,hv,hrow⟩:=hO.row
 obtain ⟨a0,c0,hvs⟩ : ∃a0 c0,v = .slice a0 its.length c0:=by
  rcases hrow.2 with ⟨rfl,hz⟩ | ⟨g,cap,cur,rfl,_⟩
  ·exact ⟨none,0,by rw [hz]⟩
  ·exact ⟨_,cap,rfl⟩
 subst hvs
 obtain ⟨w0,hw0⟩ : ∃w0,w0=w.alloc (.cells #[.int .i64 op,.int .i64 rd,.int .i64 s1,.int .i64 s2,.int .i64 im] 68):=⟨_,rfl⟩
 have hs0:w0.heap.size=w.heap.size+1:=by rw [hw0];simp
 have hb0:Bl w w0:=by rw [hw0];exact (Below.refl _ _).alloc (Nat.le_refl _) _
 have hbd:Bl w w0.drew:=hb0.drew
 have hb1:Bl w (w0.alloc (.cells #[.int .i64 1,.int .i64 op,.int .i64 rd,.int .i64 s1,.int .i64 s2,.int .i64 im,.int .i64 0] 70)).drew:=(hb0.alloc hb0.size _).drew
 have hO1:=hO.below hb1
 have hv1:(w0.alloc (.cells #[.int .i64 1,.int .i64 op,.int .i64 rd,.int .i64 s1,.int .i64 s2,.int .i64 im,.int .i64 0] 70)).drew.cell? ⟨P,5,none⟩=some (.slice a0 its.length c0):=(hb1.cell (p:=⟨P,5,none⟩) hlt).trans hv
 obtain ⟨v1,hv1',hrow1⟩:=hO1.row
 rw [hv1] at hv1'
 obtain rfl:=Option.some.inj hv1'
 obtain ⟨i1,hj,hy0,hy1,hy2⟩:=info_parts info_item
 have hsd:w0.drew.heap.size=w.heap.size+1:=hs0
 have hzz : ∀j u,(flatI [insI op rd s1 s2 im])[j]? = some u->(w0.alloc (.cells #[.int .i64 1,.int .i64 op,.int .i64 rd,.int .i64 s1,.int .i64 s2,.int .i64 im,.int .i64 0] 70)).drew.cell? ((⟨w.heap.size+1,0,none⟩:Addr).add j)=some u:=by
  have:=item_cells w0 (insI op rd s1 s2 im) 70
  rw [hs0] at this
  exact this
 have hP1:P+1<=(w0.alloc (.cells #[.int .i64 1,.int .i64 op,.int .i64 rd,.int .i64 s1,.int .i64 s2,.int .i64 im,.int .i64 0] 70)).drew.heap.size:=by have:=hb1.size;omega
 have HR1:=hide hrow1
 have HV1:=hide hv1
 have HO1:=hide hO1
 have HZZ:=hide hzz
 have HWq:Hid (Wq 5 P w (w0.alloc (.cells #[.int .i64 1,.int .i64 op,.int .i64 rd,.int .i64 s1,.int .i64 s2,.int .i64 im,.int .i64 0] 70)).drew):=Wq.below hlt hb1
 have HP1:=hide hP1
 have hvd:w0.drew.cell? ⟨P,5,none⟩=some (.slice a0 its.length c0):=(hbd.cell (p:=⟨P,5,none⟩) hlt).trans hv
 have e0:w0.drew.cell? ⟨w.heap.size,0,none⟩=some (.int .i64 op):=by show w0.cell? _=_;rw [hw0];simp
 have e1:w0.drew.cell? ⟨w.heap.size,1,none⟩=some (.int .i64 rd):=by show w0.cell? _=_;rw [hw0];simp
 have e2:w0.drew.cell? ⟨w.heap.size,2,none⟩=some (.int .i64 s1):=by show w0.cell? _=_;rw [hw0];simp
 have e3:w0.drew.cell? ⟨w.heap.size,3,none⟩=some (.int .i64 s2):=by show w0.cell? _=_;rw [hw0];simp
 have e4:w0.drew.cell? ⟨w.heap.size,4,none⟩=some (.int .i64 im):=by show w0.cell? _=_;rw [hw0];simp
 have HW0:=hide hw0
 clear hO hrow hO1 hrow1 hzz hb0 hbd hb1 hw0 hv hP1 hj hy0 hy1 hy2 hs0
 go_enter Tryz.func48,Tryz.ntmps48
 go_wp2_with fail
 rw [<-HW0.out]
 go_region_law ((refine step_appT (by rfl) _ _ (by rfl) (P+1) (.slice a0 its.length c0) its (insI op rd s1 s2 im) (by rfl) HR1.out (w.heap.size+1) 1 (by rfl) HZZ.out hl HP1.out ?_;intro v2 w2 hown2 hg2 hf2;obtain ⟨f2,c2,hO2,hW2⟩:=em_step HO1.out HV1.out hown2 hg2 hf2;have HR:Hid (Em 70 5 8 P (w2.setCell ⟨P,5,none⟩ v2) (its++[insI op rd s1 s2 im]) c/\Wq 5 P w (w2.setCell ⟨P,5,none⟩ v2)):=⟨hO2,HWq.out.trans hW2⟩;obtain ⟨va,vn,vc,rfl⟩:=row_slice hown2;clear hO2 hW2 hown2 hg2 hf2))
 all_goals exact bodyPost_end (v:=.tuple #[]) (by simp [results,Tryz.results48,go_sem]) rfl ⟨⟨_,rfl⟩,HR.out⟩
def cS (vg vf vn:Value) (fr en l:Int):Nat->Value:=fun j=>if j=0 then vg else if j=1 then vf else if j=2 then vn else if j=3 then .int .i64 fr else if j=4 then .int .i64 en else .int .i64 l
def Es (P:Nat) (w:World) (its:List It) (vg vf vn:Value) (fr en l:Int):Prop:=Em 70 6 7 P w its (cS vg vf vn fr en l)
theorem Em.congr {ti q n P:Nat} {w:World} {its:List It} {c c':Nat->Value} (h:Em ti q n P w its c) (hc : ∀o,o<n->o≠q->c o=c' o):Em ti q n P w its c':=⟨h.lt,h.fz,h.row,fun o ho hq=>(h.oth o ho hq).trans (by rw [hc o ho hq])⟩
theorem labG (P:Nat) (its:List It) (vg vf vn:Value) (fr en l:Int) (w:World) (hO:Es P w its vg vf vn fr en l) (hl:0<=l/\l<=1000000000) :
  Calls Tryz.prog 39 #[.pointer (some ⟨P,0,none⟩)] w fun e w'=>e = .returned (.int .i64 l)/\Es P w' its vg vf vn fr en (l+1)/\Wq 6 P w w':=by
 refine (labelG_any P its _ l w hO rfl hl).mono ?_
 rintro e w' ⟨rfl,h1,h2⟩
 refine ⟨rfl,h1.congr fun o ho hq => ?_,h2⟩
 have:o=0∨o=1∨o=2∨o=3∨o=4∨o=5:=by omega
 rcases this with rfl | rfl | rfl | rfl | rfl | rfl <;> rfl
theorem regI_lt {d sp:Int} (h0:0<=d) (h:d<5):d=0∨d=1∨d=2∨d=3∨d=4:=by omega
theorem regI_ge {d sp:Int} (h:5<=d):regI d sp=sp:=by
 unfold regI
 rw [if_neg o_,if_neg o_,if_neg o_,if_neg o_,if_neg o_]
theorem regG_any (d sp:Int) (w:World) (hd:0<=d):Calls Tryz.prog 118 #[.int .i64 d,.int .i64 sp] w fun e w'=>e = .returned (.int .i64 (regI d sp))/\Below w.heap.size w w':=by
 have hA : ∀o,Bl w (w.alloc o):=fun o=>(Below.refl _ _).alloc (Nat.le_refl _) o
 by_cases h5:d<5
 ·rcases regI_lt (sp:=sp) hd h5 with rfl | rfl | rfl | rfl | rfl
  ·go_enter Tryz.func118,Tryz.ntmps118
   go_wp2_with fail
   go_ret
   exact ⟨rfl,hA _⟩
  ·go_enter Tryz.func118,Tryz.ntmps118
   go_wp2_with fail
   go_ret
   exact ⟨rfl,hA _⟩
  ·go_enter Tryz.func118,Tryz.ntmps118
   go_wp2_with fail
   go_ret
   exact ⟨rfl,hA _⟩
  ·go_enter Tryz.func118,Tryz.ntmps118
   go_wp2_with fail
   go_ret
   exact ⟨rfl,hA _⟩
  ·go_enter Tryz.func118,Tryz.ntmps118
   go_wp2_with fail
   go_ret
   exact ⟨rfl,hA _⟩
 ·have HR:Hid (regI d sp=sp):=regI_ge o_
  go_enter Tryz.func118,Tryz.ntmps118
  go_wp2_with fail
  go_ret
  exact ⟨by rw [HR.out];rfl,Below.refl _ _⟩
theorem wordG_any (P:Nat) (its:List It) (vg vf:Value) (an:Option Addr) (cn:Nat) (E:GEnv) (fr en l d:Int) (w:World) (hO:Es P w its vg vf (.slice an E.n cn) fr en l) (hn:E.n<=1000000) (hd:0<=d) (hd1:d<=1000000) :
  Calls Tryz.prog 150 #[.pointer (some ⟨P,0,none⟩),.int .i64 d] w fun e w'=>e = .returned (.int .i64 (wordI E d))/\w'=w:=by
 have h2:w.cell? ⟨P,2,none⟩=some (.slice an E.n cn):=hO.oth 2 (by decide) (by decide)
 have k1:IntKind.i64.wrap ((E.n:Int)+d)=(E.n:Int)+d:=by simp [IntKind.wrap,IntKind.bits,IntKind.signed];omega
 have k2:IntKind.i64.wrap (4*((E.n:Int)+d))=4*((E.n:Int)+d):=by simp [IntKind.wrap,IntKind.bits,IntKind.signed];omega
 have HW:Hid (wordI E d=4*((E.n:Int)+d)):=rfl
 clear hO
 generalize E.n=N at h2 k1 k2 HW hn
 go_enter Tryz.func150,Tryz.ntmps150
 go_wp2_with fail
 go_ret
 exact ⟨by rw [HW.out];rfl,rfl⟩
def Wrote (P:Nat) (w:World) (its new:List It) (vg vf vn:Value) (fr en l:Int) (w':World):Prop:=Es P w' (its++new) vg vf vn fr en l/\Wq 6 P w w'
theorem readG_any (P:Nat) (its:List It) (vg vf:Value) (an:Option Addr) (cn:Nat) (E:GEnv) (fr en l d sp:Int) (w:World) (hO:Es P w its vg vf (.slice an E.n cn) fr en l) (hi:its.length<=9000000) (hn:E.n<=1000000) (hd:0<=d) (hd1:d<=1000000) :
  Calls Tryz.prog 120 #[.pointer (some ⟨P,0,none⟩),.int .i64 d,.int .i64 sp] w fun e w'=>e = .returned (.int .i64 (regI d sp))/\Wrote P w its (readL E d sp) vg vf (.slice an E.n cn) fr en l w':=by
 have HO:=hide hO
 by_cases h5:5<=d
 ·have HL:Hid (readL E d sp = [insI 10 sp 2 0 (wordI E d)]):=by show _=_;unfold readL;rw [if_pos h5]
  have HWd:=wordG_any P its vg vf an cn E fr en l d w hO hn hd hd1
  have HP:=hide (putG_any P its _ 10 sp 2 0 (wordI E d) w hO hi)
  generalize wordI E d=wd at HWd HP HL
  go_enter Tryz.func120,Tryz.ntmps120
  go_wp2_with fail
  refine HWd.mono ?_
  rintro e w1 ⟨rfl,rfl⟩
  go_wp2_with fail
  refine HP.out.mono ?_
  rintro e w2 ⟨⟨u,rfl⟩,he,hw⟩
  have HR:Hid (Em 70 6 7 P w2 (its++[insI 10 sp 2 0 wd]) (cS vg vf (.slice an E.n cn) fr en l)/\Wq 6 P w1 w2):=⟨he,hw⟩
  have hlt:=he.lt
  go_wp2_with fail
  refine (regG_any d sp w2 hd).mono ?_
  rintro e w3 ⟨rfl,hb3⟩
  go_wp2_with fail
  go_ret
  exact ⟨rfl,by rw [HL.out];exact HR.out.1.below hb3,HR.out.2.trans (Wq.below hlt hb3)⟩
 ·have HL:Hid (readL E d sp = []):=by show _=_;unfold readL;rw [if_neg h5]
  have hlt:=hO.lt
  go_enter Tryz.func120,Tryz.ntmps120
  go_wp2_with fail
  refine (regG_any d sp w hd).mono ?_
  rintro e w3 ⟨rfl,hb3⟩
  go_wp2_with fail
  go_ret
  exact ⟨rfl,by rw [HL.out,List.append_nil];exact HO.out.below hb3,Wq.below hlt hb3⟩
theorem writeG_any (P:Nat) (its:List It) (vg vf:Value) (an:Option Addr) (cn:Nat) (E:GEnv) (fr en l d:Int) (w:World) (hO:Es P w its vg vf (.slice an E.n cn) fr en l) (hi:its.length<=9000000) (hn:E.n<=1000000) (hd:0<=d) (hd1:d<=1000000) :
  Calls Tryz.prog 119 #[.pointer (some ⟨P,0,none⟩),.int .i64 d] w fun e w'=>(∃u,e = .returned u)/\Wrote P w its (writeL E d) vg vf (.slice an E.n cn) fr en l w':=by
 have HO:=hide hO
 by_cases h5:5<=d
 ·have HL:Hid (writeL E d = [insI 11 0 2 30 (wordI E d)]):=by show _=_;unfold writeL;rw [if_pos h5]
  have HWd:=wordG_any P its vg vf an cn E fr en l d w hO hn hd hd1
  have HP:=hide (putG_any P its _ 11 0 2 30 (wordI E d) w hO hi)
  generalize wordI E d=wd at HWd HP HL
  go_enter Tryz.func119,Tryz.ntmps119
  go_wp2_with fail
  refine HWd.mono ?_
  rintro e w1 ⟨rfl,rfl⟩
  go_wp2_with fail
  refine HP.out.mono ?_
  rintro e w2 ⟨⟨u,rfl⟩,he,hw⟩
  have HR:Hid (Em 70 6 7 P w2 (its++[insI 11 0 2 30 wd]) (cS vg vf (.slice an E.n cn) fr en l)/\Wq 6 P w1 w2):=⟨he,hw⟩
  go_wp2_with fail
  exact bodyPost_end (v:=.tuple #[]) (by simp [results,Tryz.results119,go_sem]) rfl ⟨⟨_,rfl⟩,by rw [HL.out];exact HR.out.1,HR.out.2⟩
 ·have HL:Hid (writeL E d = []):=by show _=_;unfold writeL;rw [if_neg h5]
  go_enter Tryz.func119,Tryz.ntmps119
  go_wp2_with fail
  exact bodyPost_end (v:=.tuple #[]) (by simp [results,Tryz.results119,go_sem]) rfl ⟨⟨_,rfl⟩,by rw [HL.out,List.append_nil];exact HO.out,Wq.refl _ _ _⟩
end Go.Proofs.YtnpidjamplmgjaaGreatDoor
