import Derived.Test.YtffnkkpmlplfeaaGreatDoorN35
import Derived.Test.YtffnkkpmlplfeaaGreatDoorN41
namespace Go.Proofs.YtffnkkpmlplfeaaGreatDoor
open Go.Proofs.Tryz
open Go.RowKit
set_option linter.all false
set_option maxRecDepth 100000
set_option maxHeartbeats 16000000
theorem look_numI {W:World} {b nn:Nat} {D:DataW Unit} {fs:List Fu} (hown:W.ownsMap prog 9 (plainElem (H:=Unit) prog 2) b nn D) (hN:NumIs D fs) {s:ByteArray} (hs:s.size<=maxLen) {i:Nat} (h:fnum fs s=some i) :
  (Instr.lookup 77 (.map (some b)) (.string s) false).run prog W=.ok (.int .i64 (i:Int)) W:=by
 obtain ⟨c,hrun,hc,_⟩:=hown.lookup_int (Maps.string_keyed underlying9) underlying77 underlying2 (zeroValue2 _) (WideMaps.keyOf_string_mk underlying9 hs);rw [hN.val s i h] at hc;simp only [DataW.lit.injEq,Lit.int.injEq,true_and] at hc;subst hc;exact hrun
theorem circlesK {E:CkV} {w:World} {v:Value} {bt:Nat} {tk:List ByteArray} (h:Cs E w [] [] v bt tk (-1) (-1)) (m:Nat) (hm:fnum E.t.funcs mainS=some m) (hfl:E.t.funcs.length<=1000) (hw:wfFs E.t.funcs) (hsm : ∀f∈E.t.funcs,smallF f) :
  Calls prog 108 #[.pointer (some ⟨E.C,0,none⟩)] w fun e w'=>e=.returned (errV (circE E.t m 0 E.t.funcs.length).1 (circE E.t m 0 E.t.funcs.length).2.1 (circE E.t m 0 E.t.funcs.length).2.2)/\Below E.w0.heap.size E.w0 w':=by
 have HC:=hide h;obtain ⟨RES,hRES⟩ : ∃R,R=circE E.t m 0 E.t.funcs.length:=⟨_,rfl⟩;rw [<-hRES];have HRES:=hide hRES;have hmn:=fnum_lt hm;have HMm:=hide hm;have hsM:mainS.size<=maxLen:=by unfold maxLen;decide
 obtain ⟨af,cf,hvf,-⟩:=h.fun0.1;obtain ⟨ag,cg,hvg,-⟩:=h.fun0.2;have c1:=h.box.c1;have c2:=h.box.c2;have c3:=h.box.c3;have hC:=h.ltC;rw [hvg] at c1;rw [hvf] at c2;have HFf:Hid (Funcs w (.slice af E.t.funcs.length cf) E.t.funcs):=by have:=h.fun0.1.below h.base;rw [hvf] at this;exact this
 obtain ⟨HW,HSm⟩:=h2 hw hsm;go_enter func108,ntmps108;go_wp2_with fail;refine (graph_any E.t.funcs _ _ _ hfl ⟨_,_,_,rfl⟩ HW HSm HFf).mono ?_;rintro e w1 ⟨vgr,rfl,hgr,hb1⟩;have HC1:Hid (Cs E w1 [] [] v bt tk (-1) (-1)):=HC.out.below hb1;have HGr:=hide hgr;have d3:=(hb1.cell (p:=⟨E.C,3,none⟩) hC).trans c3;have hlook:(Instr.lookup 77 (.map (some E.bn)) (.string ⟨#[109,97,105,110]⟩) false).run prog w1=_:=look_numI HC1.out.own HC1.out.num hsM HMm;obtain ⟨G,capG,rfl,-⟩:=hgr;go_wp2_with fail;refine (reached_any E.t _ m w1 hmn hfl HGr).mono ?_;rintro e w2 ⟨v2,out,rfl,htr,hout,hb2⟩;have HC2:Hid (Cs E w2 [] [] v bt tk (-1) (-1)):=HC1.out.below hb2;obtain ⟨HG2,HTR,HOut⟩:=h3 (HGr.out.below hb2) htr hout;obtain ⟨g5,c5,rfl,-,hg5⟩:=htr.form (by omega);go_wp2_with fail;go_loopw [23] (fun j wr=>∃(k:Nat),k<=E.t.funcs.length/\j=.int .i64 k/\RES=circE E.t m k (E.t.funcs.length-k)/\Bl w2 wr) (fun j _=>E.t.funcs.length-(RowKit.intOf j).toNat)
 case atStart=>exact ⟨0,y_,rfl,by simpa using HRES.out,r_⟩
 case round=>
  obtain ⟨k,hk,rfl,hres,hB⟩:=hrel;have HRES:=hide hres;have hcs:=HC2.out.below hB;have HCr:=hide hcs;have y5:=hcs.box.c5;have f5:=hcs.box.fz 5;have hC:=hcs.ltC;by_cases hlt:k<E.t.funcs.length
  ·have HR2:Hid (RES=circE E.t m k ((E.t.funcs.length-(k+1))+1)):=by
    show _=_;rw [HRES.out];congr 1
    omega
   have t0:=((HTR.out.below hB).cell k hlt).1;have HRe:=hide (reached_any E.t _ k wr hlt hfl (HG2.out.below hB));by_cases hkm:k=m
   ·subst hkm;have b1:((k:Int) == (k:Int))=true:=by simp
    go_wp2_with fail;refine HRe.out.mono ?_;rintro e w3 ⟨v3,out3,rfl,htr3,ho3,hb3⟩;obtain ⟨g3,c3,rfl,-,-⟩:=htr3.form (by omega);have t3:=(htr3.cell k hlt).1;have hB3:Bl w2 w3:=hB.trans (hb3.mono hB.size);have HC3:Hid (Cs E w3 [] [] v bt tk (-1) (-1)):=HCr.out.below hb3;have z5:=(hb3.cell (p:=⟨E.C,5,none⟩) hC).trans y5;have zf:=(hb3.frozen (p:=⟨E.C,5,none⟩) hC).trans f5;by_cases ho:k∈out3
    ·have HE:Hid (RES=(7,(k:Int),-1)):=by show _=_;rw [HR2.out];exact circE_hit ⟨.inl rfl,(ho3 k).1 ho⟩
     rw [decide_eq_true ho] at t3;have HC4:=hide (HC3.out.put 5 _ (HC3.out.box.s5 (k:Int)));go_wp2_with fail;refine (fault_any E.C 7 (k:Int) (-1) _ HC4.out.box.c5 HC4.out.box.c6).mono ?_;rintro e w5 ⟨rfl,hw⟩;rw [hw];go_wp2;go_ret;exact ⟨ret_val (by rw [HE.out];rfl),HC4.out.base⟩
    ·have HN:Hid (RES=circE E.t k (k+1) (E.t.funcs.length-(k+1))):=by show _=_;rw [HR2.out];exact circE_step (fun h=>ho ((ho3 k).2 h.2))
     rw [decide_eq_false ho] at t3;go_wp2_with fail;go_roundw
     case rel=>exact ⟨k+1,by omega,by go_num,HN,hB3⟩
     case measure=>simp [RowKit.intOf];omega
   have b1:((k:Int) == (m:Int))=false:=by
    have : ¬(k:Int)=(m:Int):=by omega
    simpa using this
   by_cases hko:k∈out
   ·have HA:Hid (k=m∨Rch E.t m k):=.inr ((HOut k).1 hko);rw [decide_eq_true hko] at t0;go_wp2_with fail;refine HRe.out.mono ?_;rintro e w3 ⟨v3,out3,rfl,htr3,ho3,hb3⟩;obtain ⟨g3,c3,rfl,-,-⟩:=htr3.form (by omega);have t3:=(htr3.cell k hlt).1;have hB3:Bl w2 w3:=hB.trans (hb3.mono hB.size);have HC3:Hid (Cs E w3 [] [] v bt tk (-1) (-1)):=HCr.out.below hb3;have z5:=(hb3.cell (p:=⟨E.C,5,none⟩) hC).trans y5;have zf:=(hb3.frozen (p:=⟨E.C,5,none⟩) hC).trans f5;by_cases ho:k∈out3
    ·have HE:Hid (RES=(7,(k:Int),-1)):=by show _=_;rw [HR2.out];exact circE_hit ⟨HA,(ho3 k).1 ho⟩
     rw [decide_eq_true ho] at t3;have HC4:=hide (HC3.out.put 5 _ (HC3.out.box.s5 (k:Int)));go_wp2_with fail;refine (fault_any E.C 7 (k:Int) (-1) _ HC4.out.box.c5 HC4.out.box.c6).mono ?_;rintro e w5 ⟨rfl,hw⟩;rw [hw];go_wp2;go_ret;exact ⟨ret_val (by rw [HE.out];rfl),HC4.out.base⟩
    ·have HN:Hid (RES=circE E.t m (k+1) (E.t.funcs.length-(k+1))):=by show _=_;rw [HR2.out];exact circE_step (fun h=>ho ((ho3 k).2 h.2))
     rw [decide_eq_false ho] at t3;go_wp2_with fail;go_roundw
     case rel=>exact ⟨k+1,by omega,by go_num,HN,hB3⟩
     case measure=>simp [RowKit.intOf];omega
   ·have HN:Hid (RES=circE E.t m (k+1) (E.t.funcs.length-(k+1))):=by
     show _=_;rw [HR2.out];refine circE_step (fun h => ?_);rcases h.1 with h1|h1
     ·exact hkm h1
     ·exact hko ((HOut k).2 h1)
    rw [decide_eq_false hko] at t0;go_wp2_with fail;go_roundw
    case rel=>exact ⟨k+1,by omega,by go_num,HN,hB⟩
    case measure=>simp [RowKit.intOf];omega
  ·have HN:Hid (RES=(0,-1,-1)):=by
    show _=_;have e:E.t.funcs.length-k=0:=by omega
    rw [HRES.out,e];rfl
   go_wp2;go_ret;exact ⟨ret_val (by rw [HN.out];rfl),HCr.out.base⟩
end Go.Proofs.YtffnkkpmlplfeaaGreatDoor
