import Derived.Test.YtnpidjamplmgjaaGreatDoorQ45
import Derived.Deep.RegionHeld3
import Derived.RegionTactic
set_option linter.unusedSectionVars false
variable [Inhabited Go.Proofs.YtnpidjamplmgjaaGreatDoor.Pick]
namespace Go.Proofs.YtnpidjamplmgjaaGreatDoor
open Go.RowKit
set_option linter.unusedVariables false
set_option linter.unusedSimpArgs false
set_option maxRecDepth 100000
set_option maxHeartbeats 16000000
theorem genG_any (t:Tr) (vg vf:Value) (w:World) (hs:smallT t) (hw:wfT t) (hg:Globs w vg t.globals) (hf:Funcs w vf t.funcs) :
  Calls Tryz.prog 5 #[.agg #[vg,vf]] w fun e w'=>∃v,e = .returned v/\GRow w.heap.size w' v (genE t)/\Below w.heap.size w w':=by
 have HGb:=hide hg
 have HFu:Hid (Funcs w vf t.funcs):=hf
 obtain ⟨ag,cg,rfl,-⟩:=hg
 obtain ⟨af,cf,rfl,hf1,hf2,-⟩:=hf
 obtain ⟨W2,hW2⟩ : ∃W2,W2=w.alloc (.cells #[.slice ag t.globals.length cg,.slice af t.funcs.length cf] 32):=⟨_,rfl⟩
 have hb2:Bl w W2:=by rw [hW2];exact (Below.refl _ _).alloc (Nat.le_refl _) _
 have hs2:W2.heap.size=w.heap.size+1:=by rw [hW2];simp
 have e0:W2.cell? ⟨w.heap.size,0,none⟩=some (.slice ag t.globals.length cg):=by rw [hW2];simp
 have e1:W2.cell? ⟨w.heap.size,1,none⟩=some (.slice af t.funcs.length cf):=by rw [hW2];simp
 have HBd:=hide (boundG_any t _ _ W2 hs hw (HGb.out.below hb2) (HFu.out.below hb2))
 have HW2:=hide hW2
 have HWf:=hide hw
 clear hW2 hs hw
 go_enter Tryz.func5,Tryz.ntmps5
 go_wp2_with fail
 rw [<-HW2.out]
 refine HBd.out.mono ?_
 rintro x w3 ⟨rfl,hb3⟩
 have hb3w:Bl w w3:=hb2.trans (hb3.mono o_)
 clear HBd
 by_cases hbd:boundE t<0
 ·have HE:Hid (genE t = []):=by show _=_;unfold genE;rw [if_pos hbd]
  generalize boundE t=bz at hbd ⊢
  go_wp2_with fail
  refine bodyPost_ret (v:=.slice (some ⟨w3.heap.size,0,none⟩) 0 0) (by simp [results,Tryz.results5,go_sem]) rfl ⟨_,rfl,?_,hb3w.alloc hb3w.size _⟩
  rw [HE.out]
  exact World.ownsRow_lit w3 #[] 0 hb3w.size (by decide) rfl
 ·obtain ⟨hck,hfz⟩:=bound_ok hbd
  obtain ⟨hfl,hfo⟩:=frOk hck HWf.out
  obtain ⟨hgl,-,hgz,hfn⟩:=fnOkG (sound_nodup hck).1
  obtain ⟨m,hm,hmlt,-⟩:=sound_main hck
  have HE:Hid (genE t=(codeT t t.funcs.length t.funcs.length).1):=by show _=_;unfold genE;rw [if_neg hbd]
  have HFz:=hide hfz
  have HFo:=hide hfo
  have HGz:=hide hgz
  have HFn:=hide hfn
  have HCT:Hid (∀k,codeT t (k+1) t.funcs.length=((codeT t k t.funcs.length).1++(codeF t k (t.funcs.getD k ⟨⟨#[]⟩,[],[]⟩) (codeT t k t.funcs.length).2).1,(codeF t k (t.funcs.getD k ⟨⟨#[]⟩,[],[]⟩) (codeT t k t.funcs.length).2).2)):=fun k=>rfl
  have HBdT:Hid (∀k,k<=t.funcs.length->(codeT t k t.funcs.length).1.length<=3+60100*k/\(t.funcs.length:Int)<=(codeT t k t.funcs.length).2/\(codeT t k t.funcs.length).2<=t.funcs.length+5100*k):=fun k hk=>codeT_bd hfn k _ hk
  have HC0:Hid (codeT t 0 t.funcs.length=([markI 5 (fnumG t.funcs mainS),insI 12 17 0 0 10,insI 34 0 0 0 0],(t.funcs.length:Int))):=rfl
  have x0:=(hb3.cell (p:=⟨w.heap.size,0,none⟩) (by simp;omega)).trans e0
  have x1:=(hb3.cell (p:=⟨w.heap.size,1,none⟩) (by simp;omega)).trans e1
  obtain ⟨P,hP⟩ : ∃P,P=w3.heap.size:=⟨_,rfl⟩
  obtain ⟨W4,hW4⟩ : ∃W4,W4=w3.alloc (.cells #[.slice ag t.globals.length cg,.slice af t.funcs.length cf,.slice none 0 0,.int .i64 0,.int .i64 0,.int .i64 (t.funcs.length:Int),.slice none 0 0] 45):=⟨_,rfl⟩
  have hb4:Bl w3 W4:=by rw [hW4];exact (Below.refl _ _).alloc (Nat.le_refl _) _
  have hb4w:Bl w W4:=hb3w.trans (hb4.mono hb3w.size)
  have hs3:w.heap.size+1<=w3.heap.size:=by have:=hb3.size;omega
  have HES4:Hid (Es P W4 [] (.slice ag t.globals.length cg) (.slice af t.funcs.length cf) (.slice none 0 0) 0 0 (t.funcs.length:Int)):=by
   show Em _ _ _ _ _ _ _
   rw [hP]
   refine ⟨by rw [hW4];simp,fun o => ?_,⟨.slice none 0 0,?_,World.ownsRow_nil _ _ _ _⟩,fun o ho hq => ?_⟩
   ·rw [hW4,World.frozen?_alloc_at _ _ _ _ rfl]
   ·rw [hW4];simp
   ·have:o=0∨o=1∨o=2∨o=3∨o=4∨o=5:=by omega
    rcases this with rfl | rfl | rfl | rfl | rfl | rfl <;> (rw [hW4];simp [cS])
  have HF3:Hid (Calls Tryz.prog 17 #[.agg #[.slice ag t.globals.length cg,.slice af t.funcs.length cf],.string ⟨#[109,97,105,110]⟩] W4 fun e w'=>e = .returned (.int .i64 (fnumG t.funcs mainS))/\Bl W4 w'):=l3func_any t.funcs _ _ mainS W4 o_ (HFu.out.below hb4w)
  have y0:W4.cell? ⟨w.heap.size,0,none⟩=some (.slice ag t.globals.length cg):=(hb4.cell (p:=⟨w.heap.size,0,none⟩) (by simp;omega)).trans x0
  have y1:W4.cell? ⟨w.heap.size,1,none⟩=some (.slice af t.funcs.length cf):=(hb4.cell (p:=⟨w.heap.size,1,none⟩) (by simp;omega)).trans x1
  have HCl:Hid (∀w',Wq 6 P W4 w'->w'.cell? ⟨w.heap.size,0,none⟩=some (.slice ag t.globals.length cg)/\w'.cell? ⟨w.heap.size,1,none⟩=some (.slice af t.funcs.length cf)):=fun w' h=>by
   have a1:w.heap.size≠P:=by omega
   have a2:some w.heap.size≠rbq 6 W4 P:=fun h=>by
    have:=HES4.out.rlt h.symm
    omega
   exact ⟨h.cell a1 a2 y0,h.cell a1 a2 y1⟩
  have HW4:=hide hW4
  rw [hW4] at y0 y1
  have HPe:=hide hP
  have hPle:w3.heap.size<=P/\P<=w3.heap.size:=by omega
  clear hW4 hck hfz hfo hgz hfn e0 e1 hP
  generalize boundE t=bz at hbd ⊢
  go_wp2_with fail
  rw [<-HW4.out,<-HPe.out]
  have HX1:=hide x1
  clear x0 x1 y0 y1
  refine HF3.out.mono ?_
  rintro x w5 ⟨rfl,hb5⟩
  have HES5:=hide (HES4.out.below hb5)
  have HWq5:Hid (Wq 6 P W4 w5):=Wq.below HES4.out.lt hb5
  generalize hmz:fnumG t.funcs mainS=mz at HF3 HC0 ⊢
  clear hb5 HF3
  go_wp2_with fail
  refine (markG_any P [] _ 5 mz w5 HES5.out (by simp)).mono ?_
  rintro x w6 ⟨⟨u6,rfl⟩,he6,hq6⟩
  have HWr6:Hid (Wrote P W4 [] ([markI 5 mz]) (.slice ag t.globals.length cg) (.slice af t.funcs.length cf) (.slice none 0 0) 0 0 (t.funcs.length:Int) w6):=⟨he6,HWq5.out.trans hq6⟩
  clear he6 hq6
  go_wp2_with fail
  refine (putS P _ _ _ _ _ _ _ 12 17 0 0 10 w6 HWr6.out.1 (by simp)).mono ?_
  rintro x w7 ⟨⟨u7,rfl⟩,hw7⟩
  have HWr7:=hide (HWr6.out.trans hw7)
  clear hw7
  go_wp2_with fail
  refine (putS P _ _ _ _ _ _ _ 34 0 0 0 0 w7 HWr7.out.1 (by simp)).mono ?_
  rintro x w8 ⟨⟨u8,rfl⟩,hw8⟩
  have HWr8:=hide (HWr7.out.trans hw8)
  clear hw8
  have HB8:Hid (Bl w3 w8):=by
   refine hb4.trans ⟨HWr8.out.2.still.1,HWr8.out.2.still.2.1,HWr8.out.2.still.2.2,HWr8.out.2.size,fun k hk => ?_⟩
   refine HWr8.out.2.block k (by have:=hb4.size;omega) o_ (fun e => ?_)
   have:=HES4.out.rlt e.symm
   omega
  have HE8:Hid (Es P w8 (codeT t 0 t.funcs.length).1 (.slice ag t.globals.length cg) (.slice af t.funcs.length cf) (.slice none 0 0) 0 0 (codeT t 0 t.funcs.length).2):=by
   show Es _ _ _ _ _ _ _ _ _
   rw [HC0.out]
   exact HWr8.out.1
  have HX:=hide fun W (hW:Bl w3 W)=>(hW.cell (p:=⟨w.heap.size,1,none⟩) (by simp;omega)).trans HX1.out
  have q1:=HX.out w8 HB8.out
  clear HWr8 HWr7 HWr6 hmz
  go_wp2_with fail
  clear q1
  go_loopw [4] (fun i wr=>∃(k:Nat) (vn:Value) (fr en:Int),k<=t.funcs.length/\i = .int .i64 k/\Es P wr (codeT t k t.funcs.length).1 (.slice ag t.globals.length cg) (.slice af t.funcs.length cf) vn fr en (codeT t k t.funcs.length).2/\Bl w3 wr) (fun i _=>t.funcs.length-(RowKit.intOf i).toNat)
  case atStart=>exact ⟨0,_,_,_,Nat.zero_le _,rfl,HE8.out,HB8.out⟩
  case round=>
   clear HE8 HB8
   obtain ⟨k,vn,fr,en,hk,rfl,hes,hbk⟩:=hrel
   have HEs:=hide hes
   have q1:=HX.out wr hbk
   clear hes
   by_cases hlt:k<t.funcs.length
   ·have hmem:t.funcs[k]∈t.funcs:=List.getElem_mem hlt
    have hfk:=HFn.out _ hmem
    obtain ⟨b1,b2,b3⟩:=HBdT.out k hk
    have hszk:=hfk.sz
    have HFun:Hid (Calls Tryz.prog 19 #[.pointer (some ⟨P,0,none⟩),.int .i64 (k:Int)] wr fun x w'=>(∃u,x = .returned u)/\(∃vn' fr' en',Es P w' (codeT t (k+1) t.funcs.length).1 (.slice ag t.globals.length cg) (.slice af t.funcs.length cf) vn' fr' en' (codeT t (k+1) t.funcs.length).2)/\Bl w3 w'):=by
     have h:=funS_any t w3 P _ _ vn fr en o_ (HGb.out.below hb3w) (HFu.out.below hb3w) hgl HGz.out o_ k hlt (HFo.out _ hmem) hfk.st hfk.fit ⟨by have:=frameSz_nonneg (HFo.out _ hmem).st;omega,by have:=HFz.out _ hmem;omega⟩ hfk.pl hfk.bl wr _ _ HEs.out hbk o_ o_ o_
     rw [HCT.out k]
     have eg:t.funcs.getD k ⟨⟨#[]⟩,[],[]⟩=t.funcs[k]:=by
      rw [List.getD_eq_getElem?_getD,List.getElem?_eq_getElem hlt]
      rfl
     rw [eg]
     exact h
    clear b1 b2 b3 hfk HEs hmem
    go_wp2_with fail
    refine HFun.out.mono ?_
    rintro x w9 ⟨⟨u9,rfl⟩,⟨vn',fr',en',he9⟩,hb9⟩
    have HE9:=hide he9
    clear he9 HFun q1
    go_wp2_with fail
    go_roundw
    case rel=>exact ⟨k+1,vn',fr',en',by omega,by go_num,HE9.out,hb9⟩
    case measure=>simp [RowKit.intOf];omega
   ·obtain rfl:k=t.funcs.length:=by omega
    obtain ⟨vr,hvr,hrow⟩:=HEs.out.row
    obtain ⟨va,vnn,vc,rfl⟩ : ∃va vn vc,vr = .slice va vn vc:=by
     rcases hrow.2 with ⟨rfl,_⟩ | ⟨g,cap,cur,rfl,_⟩
     ·exact ⟨_,_,_,rfl⟩
     ·exact ⟨_,_,_,rfl⟩
    have HRow:Hid (GRow (P+1) wr (.slice va vnn vc) (codeT t t.funcs.length t.funcs.length).1):=hrow
    clear hrow HEs
    go_wp2_with fail
    refine bodyPost_ret (v:=.slice va vnn vc) (by simp [results,Tryz.results5,go_sem]) rfl ⟨_,rfl,?_,hb3w.trans (hbk.mono hb3w.size)⟩
    rw [HE.out]
    exact HRow.out.base o_
def ItemsC (w:World) (b off:Nat) (its:List It):Prop:=∀j (h:j<its.length),
 w.cell? ⟨b,off+j*7,none⟩=some (.int .i64 its[j].kind)/\w.cell? ⟨b,off+j*7+1,none⟩=some (.int .i64 its[j].ins.op)/\w.cell? ⟨b,off+j*7+2,none⟩=some (.int .i64 its[j].ins.rd)/\w.cell? ⟨b,off+j*7+3,none⟩=some (.int .i64 its[j].ins.s1)/\w.cell? ⟨b,off+j*7+4,none⟩=some (.int .i64 its[j].ins.s2)/\w.cell? ⟨b,off+j*7+5,none⟩=some (.int .i64 its[j].ins.im)/\w.cell? ⟨b,off+j*7+6,none⟩=some (.int .i64 its[j].label)
theorem ItemsC.below {w w':World} {b off:Nat} {its:List It} (h:ItemsC w b off its) (hb:Below w.heap.size w w'):ItemsC w' b off its:=by
 intro j hj
 obtain ⟨c0,c1,c2,c3,c4,c5,c6⟩:=h j hj
 have hlt:=World.block_lt_of_cell? _ _ c0
 exact ⟨(hb.cell hlt).trans c0,(hb.cell (p:=⟨b,off+j*7+1,none⟩) hlt).trans c1,(hb.cell (p:=⟨b,off+j*7+2,none⟩) hlt).trans c2,(hb.cell (p:=⟨b,off+j*7+3,none⟩) hlt).trans c3,(hb.cell (p:=⟨b,off+j*7+4,none⟩) hlt).trans c4,(hb.cell (p:=⟨b,off+j*7+5,none⟩) hlt).trans c5,(hb.cell (p:=⟨b,off+j*7+6,none⟩) hlt).trans c6⟩
def Items (w:World) (v:Value) (its:List It):Prop:=∃a cap,v = .slice a its.length cap/\its.length<=cap/\cap<=9223372036854775807/\(0<its.length->∃b off,a=some ⟨b,off,none⟩/\ItemsC w b off its)
theorem Items.below {w w':World} {v:Value} {its:List It} (h:Items w v its) (hb:Below w.heap.size w w'):Items w' v its:=by
 obtain ⟨a,cap,rfl,hl,hm,h⟩:=h
 refine ⟨a,cap,rfl,hl,hm,fun h0 => ?_⟩
 obtain ⟨b,off,rfl,hc⟩:=h h0
 exact ⟨b,off,rfl,hc.below hb⟩
def itv (it:It):Value:=.agg #[.int .i64 it.kind,.int .i64 it.ins.op,.int .i64 it.ins.rd,.int .i64 it.ins.s1,.int .i64 it.ins.s2,.int .i64 it.ins.im,.int .i64 it.label]
structure Tk (g:Nat) (w w':World):Prop where
 still:w'.os=w.os/\w'.tape=w.tape/\w'.output=w.output
 size:w'.heap.size=w.heap.size
 other : ∀b,b≠g->w'.heap[b]? = w.heap[b]?
theorem Tk.refl (g:Nat) (w:World):Tk g w w:=⟨⟨rfl,rfl,rfl⟩,rfl,fun _ _=>rfl⟩
theorem Tk.set {g:Nat} {w w':World} (h:Tk g w w') (o:Nat) (v:Value):Tk g w (w'.setCell ⟨g,o,none⟩ v):=by
 have hs:Bl w' w':=Below.refl _ _
 have hb0:=(Below.refl 0 w').setCell (p:=⟨g,o,none⟩) (Nat.zero_le _) v
 refine ⟨⟨hb0.os.trans h.still.1,hb0.tape.trans h.still.2.1,hb0.output.trans h.still.2.2⟩,by simpa using h.size,fun b hb => ?_⟩
 rw [<-h.other b hb]
 exact Below.heap_setCell _ _ _ b (fun h=>hb (by simpa using h))
theorem Tk.below {B g:Nat} {w w':World} (h:Tk g w w') (hg:B<=g):Below B w w':=
 ⟨h.still.1,h.still.2.1,h.still.2.2,Nat.le_of_eq h.size.symm,fun k hk=>h.other k o_⟩
def OldK (w:World) (g m:Nat):Prop:=∀j,j<m->(∃y,w.cell? ⟨g,j,none⟩=some y)/\w.frozen? ⟨g,j,none⟩=false
theorem OldK.set {w:World} {g m:Nat} (h:OldK w g m) (i:Nat) (u:Value):OldK (w.setCell ⟨g,i,none⟩ u) g m:=by
 intro j hj
 obtain ⟨⟨y,hy⟩,hf⟩:=h j hj
 refine ⟨?_,(World.frozen?_setCell _ _ _ _).trans hf⟩
 by_cases e:j=i
 ·subst e
  exact ⟨_,World.cell?_setCell_same _ _ _ hy⟩
 ·exact ⟨y,by rw [World.cell?_setCell_other _ _ _ _ (by intro h;simp only [Addr.mk.injEq] at h;omega)];exact hy⟩
theorem eqInst_any (op rd s1 s2 im:Int) (w:World):Calls Tryz.prog 57 #[.agg #[.int .i64 op,.int .i64 rd,.int .i64 s1,.int .i64 s2,.int .i64 im],.agg #[.int .i64 op,.int .i64 rd,.int .i64 s1,.int .i64 s2,.int .i64 im]] w fun e w'=>e = .returned (.bool true)/\Below w.heap.size w w':=by
 go_enter Tryz.func57,Tryz.ntmps57
 go_wp2_with fail
 go_ret
 exact ⟨rfl,(bel_a _ _).alloc (by simp) _⟩
theorem box77 {w w':World} {t u:TypeId} {a0 a1 a2 a3 a4 a5 a6 b0 b1 b2 b3 b4 b5 b6:Value} (h:Below ((w.alloc (.cells #[a0,a1,a2,a3,a4,a5,a6] t)).alloc (.cells #[b0,b1,b2,b3,b4,b5,b6] u)).heap.size ((w.alloc (.cells #[a0,a1,a2,a3,a4,a5,a6] t)).alloc (.cells #[b0,b1,b2,b3,b4,b5,b6] u)) w') :
  w'.cell? ⟨w.heap.size,6,none⟩=some a6/\w'.cell? ⟨w.heap.size+1,6,none⟩=some b6:=by
 refine ⟨?_,?_⟩
 all_goals (rw [h.cell (by first | (simp;done) | (simp;omega))];go_simp;done)
theorem eqItem_any (x:It) (w:World):Calls Tryz.prog 28 #[itv x,itv x] w fun e w'=>e = .returned (.bool true)/\Below w.heap.size w w':=by
 obtain ⟨kd,⟨op,rd,s1,s2,im⟩,lb⟩:=x
 unfold itv
 simp only
 go_enter Tryz.func28,Tryz.ntmps28
 go_wp2_with fail
 refine (eqInst_any op rd s1 s2 im _).mono ?_
 rintro e w1 ⟨rfl,hb1⟩
 obtain ⟨c6,b6⟩:=box77 hb1
 have hB1:Bl w w1:=((bel_a _ _).alloc (by simp) _).trans (hb1.mono (by simp;omega))
 go_wp2_with fail
 go_ret
 exact ⟨rfl,hB1⟩
theorem bcellK {W w1:World} (hb:Below W.heap.size W w1):(∀b o,b<W.heap.size->w1.cell? ⟨b,o,none⟩=W.cell? ⟨b,o,none⟩)/\(∀b o,b<W.heap.size->w1.frozen? ⟨b,o,none⟩=W.frozen? ⟨b,o,none⟩):=
 ⟨fun b o h=>hb.cell (p:=⟨b,o,none⟩) h,fun b o h=>hb.frozen (p:=⟨b,o,none⟩) h⟩
theorem eqItems_any (v1 v2:Value) (ns:List It) (w:World) (hl:ns.length<=10000000) (h1:Items w v1 ns) (h2:Items w v2 ns) :
  Calls Tryz.prog 8 #[v1,v2] w fun e w'=>e = .returned (.bool true)/\Below w.heap.size w w':=by
 obtain ⟨a1,c1,rfl,-,-,hc1⟩:=h1
 obtain ⟨a2,c2,rfl,-,-,hc2⟩:=h2
 have H1:=hide hc1
 have H2:=hide hc2
 go_enter Tryz.func8,Tryz.ntmps8
 go_wp2_with fail
 go_loopw [5] (fun i wr=>∃k:Nat,k<=ns.length/\i = .int .i64 k/\Bl w wr) (fun i _=>ns.length-(RowKit.intOf i).toNat)
 case atStart=>exact ⟨0,Nat.zero_le _,rfl,Below.refl _ _⟩
 case round=>
  obtain ⟨k,hk,rfl,hB⟩:=hrel
  by_cases hlt:k<ns.length
  ·obtain ⟨b1,o1,rfl,hx1⟩:=H1.out o_
   obtain ⟨b2,o2,rfl,hx2⟩:=H2.out o_
   obtain ⟨d0,d1,d2,d3,d4,d5,d6⟩:=(hx1.below hB) k hlt
   obtain ⟨e0,e1,e2,e3,e4,e5,e6⟩:=(hx2.below hB) k hlt
   have l1:=World.block_lt_of_cell? _ _ d0
   have l2:=World.block_lt_of_cell? _ _ e0
   simp only at l1 l2
   generalize ns[k]=n at d0 d1 d2 d3 d4 d5 d6 e0 e1 e2 e3 e4 e5 e6
   have HQ:=hide fun (W:World)=>eqItem_any n W
   go_wp2_with fail
   go_region_held3 (fun W=>W.cell? ⟨b1,o1+k*7,none⟩=some (.int .i64 n.kind)/\W.cell? ⟨b1,o1+k*7+1,none⟩=some (.int .i64 n.ins.op)/\W.cell? ⟨b1,o1+k*7+2,none⟩=some (.int .i64 n.ins.rd)/\W.cell? ⟨b1,o1+k*7+3,none⟩=some (.int .i64 n.ins.s1)/\W.cell? ⟨b1,o1+k*7+4,none⟩=some (.int .i64 n.ins.s2)/\W.cell? ⟨b1,o1+k*7+5,none⟩=some (.int .i64 n.ins.im)/\W.cell? ⟨b1,o1+k*7+6,none⟩=some (.int .i64 n.label)/\W.cell? ⟨b2,o2+k*7,none⟩=some (.int .i64 n.kind)/\W.cell? ⟨b2,o2+k*7+1,none⟩=some (.int .i64 n.ins.op)/\W.cell? ⟨b2,o2+k*7+2,none⟩=some (.int .i64 n.ins.rd)/\W.cell? ⟨b2,o2+k*7+3,none⟩=some (.int .i64 n.ins.s1)/\W.cell? ⟨b2,o2+k*7+4,none⟩=some (.int .i64 n.ins.s2)/\W.cell? ⟨b2,o2+k*7+5,none⟩=some (.int .i64 n.ins.im)/\W.cell? ⟨b2,o2+k*7+6,none⟩=some (.int .i64 n.label)) (go_simp)
    (first
    | (go_at_call 28;refine (HQ.out _).mono ?_;rintro e w2 ⟨rfl,hb2⟩;have hcc : ∀b o,b<wr.heap.size->w2.cell? ⟨b,o,none⟩=wr.cell? ⟨b,o,none⟩:=(bcellK hb2).1))
   have hB2:=hB.trans ((((Below.refl _ _).drew).trans hb2).mono hB.size)
   go_wp2_with fail
   go_roundw
   case rel=>exact ⟨k+1,by omega,by go_num,hB2⟩
   case measure=>simp [RowKit.intOf];omega
  ·go_wp2_with fail
   go_ret
   exact ⟨rfl,hB⟩
def MkdK (w:World) (g q k:Nat):Prop:=∀j,j<k->∀i,i<7->w.cell? ⟨g,j*7+i,none⟩=some (.int .i64 ((q+7*j+i:Nat):Int))
theorem MkdK.set {w:World} {g q k:Nat} (h:MkdK w g q k) {i:Nat} (hi:k*7<=i) (u:Value):MkdK (w.setCell ⟨g,i,none⟩ u) g q k:=by
 intro j hj m hm
 rw [World.cell?_setCell_other _ _ _ _ (by intro h;simp only [Addr.mk.injEq] at h;omega)]
 exact h j hj m hm
theorem MkdK.below {w w':World} {g q k:Nat} (h:MkdK w g q k) (hb:Below w.heap.size w w'):MkdK w' g q k:=by
 intro j hj m hm
 have h0:=h j hj m hm
 have hlt:=World.block_lt_of_cell? _ _ h0
 exact (hb.cell (p:=⟨g,j*7+m,none⟩) hlt).trans h0
def PartK (w:World) (g q k m:Nat):Prop:=∀i,i<m->w.cell? ⟨g,k*7+i,none⟩=some (.int .i64 ((q+7*k+i:Nat):Int))
theorem PartK.set {w:World} {g q k m n:Nat} (h:PartK w g q k m) (ho:OldK w g n) (hn:k*7+m<n) {u:Value} (hu:u = .int .i64 ((q+7*k+m:Nat):Int)):PartK (w.setCell ⟨g,k*7+m,none⟩ u) g q k (m+1):=by
 intro i hi
 by_cases e:i=m
 ·subst e
  obtain ⟨⟨y,hy⟩,_⟩:=ho (k*7+i) hn
  rw [World.cell?_setCell_same _ _ _ hy,hu]
 ·rw [World.cell?_setCell_other _ _ _ _ (by intro h;simp only [Addr.mk.injEq] at h;omega)]
  exact h i o_
theorem mark7 {w:World} {g q k n:Nat} {u0 u1 u2 u3 u4 u5 u6:Value} (ho:OldK w g n) (hk:k*7+7<=n) (hm:MkdK w g q k) (h0:u0 = .int .i64 ((q+7*k+0:Nat):Int)) (h1:u1 = .int .i64 ((q+7*k+1:Nat):Int)) (h2:u2 = .int .i64 ((q+7*k+2:Nat):Int)) (h3:u3 = .int .i64 ((q+7*k+3:Nat):Int)) (h4:u4 = .int .i64 ((q+7*k+4:Nat):Int)) (h5:u5 = .int .i64 ((q+7*k+5:Nat):Int)) (h6:u6 = .int .i64 ((q+7*k+6:Nat):Int)) :
  MkdK (((((((w.setCell ⟨g,k*7,none⟩ u0).setCell ⟨g,k*7+1,none⟩ u1).setCell ⟨g,k*7+2,none⟩ u2).setCell ⟨g,k*7+3,none⟩ u3).setCell ⟨g,k*7+4,none⟩ u4).setCell ⟨g,k*7+5,none⟩ u5).setCell ⟨g,k*7+6,none⟩ u6) g q (k+1):=by
 have o1:=ho.set (k*7) u0
 have o2:=o1.set (k*7+1) u1
 have o3:=o2.set (k*7+2) u2
 have o4:=o3.set (k*7+3) u3
 have o5:=o4.set (k*7+4) u4
 have o6:=o5.set (k*7+5) u5
 have p0:PartK w g q k 0:=fun i hi=>absurd hi (Nat.not_lt_zero _)
 have p1:=p0.set ho o_ h0
 have p2:=p1.set o1 o_ h1
 have p3:=p2.set o2 o_ h2
 have p4:=p3.set o3 o_ h3
 have p5:=p4.set o4 o_ h4
 have p6:=p5.set o5 o_ h5
 have p7:=p6.set o6 o_ h6
 have hm':=((((((hm.set (i:=k*7) o_ u0).set (i:=k*7+1) o_ u1).set (i:=k*7+2) o_ u2).set (i:=k*7+3) o_ u3).set (i:=k*7+4) o_ u4).set (i:=k*7+5) o_ u5).set (i:=k*7+6) o_ u6
 intro j hj i hi
 by_cases e:j=k
 ·subst e
  exact p7 i hi
 ·exact hm' j o_ i hi
theorem markK_any (g n cap q:Nat) (w:World) (hn:n<=10000000) (h0:0<q) (hq:q<=100) (h:OldK w g (n*7)) :
  Calls Tryz.prog 11 #[.slice (some ⟨g,0,none⟩) n cap,.int .i64 q] w fun e w'=>e = .returned (.int .i64 ((q+7*n:Nat):Int))/\Tk g w w'/\MkdK w' g q n:=by
 have H:=hide h
 clear h
 go_enter Tryz.func11,Tryz.ntmps11
 go_wp2_with fail
 go_loopw [1,5] (fun kk i wr=>∃k:Nat,k<=n/\i = .int .i64 k/\kk = .int .i64 ((q+7*k:Nat):Int)/\Tk g w wr/\OldK wr g (n*7)/\MkdK wr g q k) (fun _ i _=>n-(RowKit.intOf i).toNat)
 case atStart=>exact ⟨0,Nat.zero_le _,rfl,rfl,Tk.refl _ _,H.out,fun j hj=>absurd hj (Nat.not_lt_zero _)⟩
 case round=>
  obtain ⟨k,hk,rfl,rfl,hT,hO,hM⟩:=hrel
  have HO:=hide hO
  have HM:=hide hM
  have HTn:=hide hT
  clear hO hT hM
  by_cases hlt:k<n
  ·obtain ⟨z,hz⟩ : ∃z:Nat,z=q+7*k:=⟨_,rfl⟩
   have HZ:=hide hz
   rw [<-hz]
   have hz0:0<z:=by omega
   have hz1:(z:Int)<=200000000:=by omega
   clear hz
   obtain ⟨⟨y0,c0⟩,f0⟩:=HO.out (k*7) o_
   obtain ⟨⟨y1,c1⟩,f1⟩:=HO.out (k*7+1) o_
   obtain ⟨⟨y2,c2⟩,f2⟩:=HO.out (k*7+2) o_
   obtain ⟨⟨y3,c3⟩,f3⟩:=HO.out (k*7+3) o_
   obtain ⟨⟨y4,c4⟩,f4⟩:=HO.out (k*7+4) o_
   obtain ⟨⟨y5,c5⟩,f5⟩:=HO.out (k*7+5) o_
   obtain ⟨⟨y6,c6⟩,f6⟩:=HO.out (k*7+6) o_
   go_wp2_with fail
   go_roundw
   case rel=>exact ⟨k+1,by omega,by go_num,by rw [HZ.out];go_num,((((((HTn.out.set _ _).set _ _).set _ _).set _ _).set _ _).set _ _).set _ _,((((((HO.out.set _ _).set _ _).set _ _).set _ _).set _ _).set _ _).set _ _,mark7 HO.out o_ HM.out (by rw [HZ.out];go_num) (by rw [HZ.out];go_num) (by rw [HZ.out];go_num) (by rw [HZ.out];go_num) (by rw [HZ.out];go_num) (by rw [HZ.out];go_num) (by rw [HZ.out];go_num)⟩
   case measure=>simp [RowKit.intOf];omega
  ·obtain rfl:k=n:=by omega
   go_wp2_with fail
   go_ret
   exact ⟨rfl,HTn.out,HM.out⟩
theorem heldK_any (g n cap q:Nat) (w:World) (hn:n<=10000000) (h0:0<q) (hq:q<=100) (h:MkdK w g q n) :
  Calls Tryz.prog 12 #[.slice (some ⟨g,0,none⟩) n cap,.int .i64 q] w fun e w'=>e = .returned (.int .i64 ((q+7*n:Nat):Int))/\Below w.heap.size w w':=by
 have H:=hide h
 clear h
 go_enter Tryz.func12,Tryz.ntmps12
 go_wp2_with fail
 go_loopw [1,5] (fun kk i wr=>∃k:Nat,k<=n/\i = .int .i64 k/\kk = .int .i64 ((q+7*k:Nat):Int)/\Bl w wr) (fun _ i _=>n-(RowKit.intOf i).toNat)
 case atStart=>exact ⟨0,Nat.zero_le _,rfl,rfl,Below.refl _ _⟩
 case round=>
  obtain ⟨k,hk,rfl,rfl,hB⟩:=hrel
  by_cases hlt:k<n
  ·have hm:=(H.out.below hB) k hlt
   obtain ⟨z,hz⟩ : ∃z:Nat,z=q+7*k:=⟨_,rfl⟩
   have HZ:=hide hz
   rw [<-hz] at hm ⊢
   have hz0:0<z:=by omega
   have hz1:(z:Int)<=200000000:=by omega
   have c0:wr.cell? ⟨g,k*7,none⟩=some (.int .i64 (z:Int)):=hm 0 o_
   have c1:wr.cell? ⟨g,k*7+1,none⟩=some (.int .i64 ((z:Int)+1)):=hm 1 o_
   have c2:wr.cell? ⟨g,k*7+2,none⟩=some (.int .i64 ((z:Int)+1+1)):=(hm 2 o_).trans (by go_num)
   have c3:wr.cell? ⟨g,k*7+3,none⟩=some (.int .i64 ((z:Int)+1+1+1)):=(hm 3 o_).trans (by go_num)
   have c4:wr.cell? ⟨g,k*7+4,none⟩=some (.int .i64 ((z:Int)+1+1+1+1)):=(hm 4 o_).trans (by go_num)
   have c5:wr.cell? ⟨g,k*7+5,none⟩=some (.int .i64 ((z:Int)+1+1+1+1+1)):=(hm 5 o_).trans (by go_num)
   have c6:wr.cell? ⟨g,k*7+6,none⟩=some (.int .i64 ((z:Int)+1+1+1+1+1+1)):=(hm 6 o_).trans (by go_num)
   clear hz hm
   go_wp2_with fail
   go_roundw
   case rel=>exact ⟨k+1,by omega,by go_num,by rw [HZ.out];go_num,hB⟩
   case measure=>simp [RowKit.intOf];omega
  ·obtain rfl:k=n:=by omega
   go_wp2_with fail
   go_ret
   exact ⟨rfl,hB⟩
theorem flatI_get : ∀(l:List It) (j i:Nat) (hj:j<l.length),i<7->(flatI l)[j*7+i]? = (cellsI l[j])[i]?
 | x::l,0,i,_,hi=>by
  have:(cellsI x).length=7:=rfl
  show (cellsI x++flatI l)[0*7+i]? = _
  rw [List.getElem?_append_left o_]
  simp
 | x::l,j+1,i,hj,hi=>by
  have h7:(cellsI x).length=7:=rfl
  show (cellsI x++flatI l)[(j+1)*7+i]? = _
  rw [List.getElem?_append_right o_]
  have e:(j+1)*7+i-(cellsI x).length=j*7+i:=by omega
  rw [e,flatI_get l j i (by simpa using hj) hi]
  simp
theorem GRow.items {B:Nat} {w:World} {v:Value} {its:List It} (h:GRow B w v its):Items w v its:=by
 have h0:=h
 obtain ⟨h1,h2⟩:=h
 rcases h2 with ⟨rfl,hz⟩ | ⟨g,cap,cur,rfl,h3,h4,h5⟩
 ·exact ⟨none,0,by rw [hz],by omega,by omega,fun h=>by omega⟩
 ·have hc:its.length<=cap/\cap<=9223372036854775807:=by
   obtain ⟨q1,q2,-⟩:=h5
   unfold maxLen at q2
   exact ⟨q1,q2⟩
  refine ⟨_,cap,rfl,hc.1,hc.2,fun hp=>⟨g,0,rfl,fun j hj => ?_⟩⟩
  have key : ∀i,i<7->w.cell? ⟨g,0+j*7+i,none⟩=(cellsI its[j])[i]? := fun i hi=>by
   have hl:(flatI its).length=its.length*7:=flatI_len its
   rw [Nat.zero_add,World.ownsRow.cellAt h0 (j*7+i) o_,flatI_get its j i hj hi]
  exact ⟨key 0 o_,key 1 o_,key 2 o_,key 3 o_,key 4 o_,key 5 o_,key 6 o_⟩
theorem GRow.keep {B:Nat} {w w':World} {v:Value} {its:List It} (h:GRow B w v its) (hb : ∀g,B<=g->g<w.heap.size->w'.heap[g]? = w.heap[g]?):GRow B w' v its:=by
 obtain ⟨g1,g2⟩:=h
 refine ⟨g1,?_⟩
 rcases g2 with g2 | ⟨g,cap,cur,rfl,g3,g4,g5⟩
 ·exact .inl g2
 ·refine .inr ⟨g,cap,cur,rfl,g3,?_,g5⟩
  rw [hb g g3 (Array.getElem?_eq_some_iff.1 g4).1]
  exact g4
theorem GRow.below {B:Nat} {w w':World} {v:Value} {its:List It} (h:GRow B w v its) (hb:Below w.heap.size w w'):GRow B w' v its:=h.keep fun g _ hg=>hb.block g hg
def MkdI (w:World) (v:Value) (n:Nat):Prop:=(v = .slice none 0 0/\n=0)∨∃g cap,v = .slice (some ⟨g,0,none⟩) n cap/\MkdK w g 1 n
theorem markNilK (w:World):Calls Tryz.prog 11 #[.slice none 0 0,.int .i64 1] w fun e w'=>e = .returned (.int .i64 1)/\w'=w:=by
 go_enter Tryz.func11,Tryz.ntmps11
 go_wp2_with fail
 refine wp_loop_rounds 1 ?_
 rw [rounds_succ]
 go_wp2_with fail
 go_ret
 exact ⟨rfl,rfl⟩
theorem heldNilK (w:World):Calls Tryz.prog 12 #[.slice none 0 0,.int .i64 1] w fun e w'=>e = .returned (.int .i64 1)/\w'=w:=by
 go_enter Tryz.func12,Tryz.ntmps12
 go_wp2_with fail
 refine wp_loop_rounds 1 ?_
 rw [rounds_succ]
 go_wp2_with fail
 go_ret
 exact ⟨rfl,rfl⟩
theorem own_oldK {w:World} {base e size n cap g:Nat} {xs:List Value} (h:w.ownsRow base e size (.slice (some ⟨g,0,none⟩) n cap) n xs) (j:Nat) (hj:j<n*size):(∃y,w.cell? ⟨g,j,none⟩=some y)/\w.frozen? ⟨g,j,none⟩=false:=by
 have hlen:=h.1
 exact ⟨⟨xs[j]' o_,by rw [h.cellAt j o_];simp⟩,h.frozenAt j⟩
theorem markIO_any {w:World} {N:Nat} {v:Value} {its:List It} (hn:its.length<=10000000) (hown:GRow N w v its) :
  Calls Tryz.prog 11 #[v,.int .i64 1] w fun e w'=>e = .returned (.int .i64 ((1+7*its.length:Nat):Int))/\Below N w w'/\MkdI w' v its.length:=by
 have h0:=hown
 obtain ⟨g1,g2⟩:=hown
 rcases g2 with ⟨rfl,hz⟩ | ⟨g,cap,cur,rfl,hg,-⟩
 ·refine (markNilK w).mono ?_
  rintro e w' ⟨rfl,rfl⟩
  exact ⟨by rw [hz];rfl,Below.refl _ _,.inl ⟨rfl,hz⟩⟩
 ·have h:OldK w g (its.length*7):=fun j hj=>own_oldK h0 j hj
  refine (markK_any g its.length cap 1 w hn o_ o_ h).mono ?_
  rintro e w' ⟨rfl,hT,hM⟩
  exact ⟨rfl,hT.below hg,.inr ⟨g,cap,rfl,hM⟩⟩
theorem heldIO_any {w:World} {v:Value} {n:Nat} (hn:n<=10000000) (hM:MkdI w v n) :
  Calls Tryz.prog 12 #[v,.int .i64 1] w fun e w'=>e = .returned (.int .i64 ((1+7*n:Nat):Int))/\Below w.heap.size w w':=by
 rcases hM with ⟨rfl,rfl⟩ | ⟨g,cap,rfl,hM⟩
 ·refine (heldNilK w).mono ?_
  rintro e w' ⟨rfl,rfl⟩
  exact ⟨rfl,Below.refl _ _⟩
 ·exact heldK_any g n cap 1 w hn o_ o_ hM
end Go.Proofs.YtnpidjamplmgjaaGreatDoor
