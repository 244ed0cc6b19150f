import Derived.Test.YtffnkkpmlplfeaaGreatDoorF41
import Derived.Test.YtffnkkpmlplfeaaGreatDoorF40
namespace Go.Proofs.YtffnkkpmlplfeaaGreatDoor
open Go.Proofs.Tryz Go.RowKit
set_option linter.all false
set_option maxRecDepth 100000
set_option maxHeartbeats 0
variable[Inhabited Pick]
def wH{W:AT}{b nn:Nat}{D:DataW Unit}{J:List Fu}(Y:W.ownsMap prog 9 (plainElem (H:=Unit) prog 2) b nn D)(hN:cR D J){s:GA}(Z:s.size<=maxLen){i:Nat}(h:bO J s=some i):
  (Instr.lookup 77 (.map (some b)) (sV s) false).run prog W=.ok (V (i:Int)) W:=by
 obtain⟨c,U,I,_⟩:=Y.lookup_int (Maps.string_keyed underlying9) underlying77 underlying2 (zeroValue2 _) (WideMaps.keyOf_string_mk underlying9 Z);rw[hN.val s i h]at I;simp only[DataW.lit.injEq,Lit.int.injEq,true_and]at I;subst I;exact U
def zH{E:ld}{w:AT}{v:BY}{bt:Nat}{tk:List GA}(h:Cs E w [] [] v bt tk (-1) (-1))(m:Nat)(hm:bO E.t.funcs di=some m)(Jr:E.t.funcs.length<=1000)(hw:uR E.t.funcs)(Xj:∀f∈E.t.funcs,eX f):
  Calls prog 108 #[pV E.C] w λe w'=>e=rW (eM (dj E.t m 0 E.t.funcs.length).1 (dj E.t m 0 E.t.funcs.length).2.1 (dj E.t m 0 E.t.funcs.length).2.2)/\Below E.w0.heap.size E.w0 w':=by
 have HC:=ah h;obtain⟨J,Jj⟩:=q_ (dj E.t m 0 E.t.funcs.length);rw[<-Jj];have Jb:=ah Jj;have Xe:=de hm;have Xb:=ah hm;have J_:di.size<=maxLen:=by unfold maxLen;decide
 obtain⟨af,cf,Js,-⟩:=h.fun0.1;obtain⟨ag,cg,Xg,-⟩:=h.fun0.2;have c1:=h.box.c1;have c2:=h.box.c2;have c3:=h.box.c3;have hC:=h.ltC;rw[Xg]at c1;rw[Js]at c2;have Xc:Hid (bC w (.slice af E.t.funcs.length cf) E.t.funcs):=by have:=h.fun0.1.below h.base;rw[Js]at this;exact this
 obtain⟨HW,Xi⟩:=h2 hw Xj;go_in;go_wp2_with fail;refine(wF E.t.funcs _ _ _ Jr ⟨_,_,_,rfl⟩ HW Xi Xc).mono ?_;rintro e w1 ⟨Xk,rfl,Jt,Jy⟩;have Jm:Hid (Cs E w1 [] [] v bt tk (-1) (-1)):=HC.o.below Jy;have Jx:=ah Jt;have d3:=(Jy.cell (p:=⟨E.C,3,none⟩) hC).trans c3;have Jz:(Instr.lookup 77 (.map (some E.bn)) (sV ⟨#[109,97,105,110]⟩) false).run prog w1=_:=wH Jm.o.own Jm.o.num J_ Xb;obtain⟨G,Xd,rfl,-⟩:=Jt;go_wp2_with fail;refine(kF E.t _ m w1 Xe Jr Jx).mono ?_;rintro e w2 ⟨v2,out,rfl,Ju,Jp,Jw⟩;have Xf:Hid (Cs E w2 [] [] v bt tk (-1) (-1)):=Jm.o.below Jw;obtain⟨Xa,Xh,Jk⟩:=h3 (Jx.o.below Jw) Ju Jp;obtain⟨g5,c5,rfl,-,Xl⟩:=Ju.form o_;go_wp2;go_loopw[23] (λj wr=>∃(k:Nat),k<=E.t.funcs.length/\j=V k/\J=dj E.t m k (E.t.funcs.length-k)/\Bl w2 wr) (λj _=>E.t.funcs.length-(RowKit.intOf j).toNat)
 case atStart=>exact⟨0,y_,rfl,Fc Jb.o,r_⟩
 case round=>
  obtain⟨k,hk,rfl,Jo,U⟩:=hrel;have Jb:=ah Jo;have Jl:=Xf.o.below U;have Jn:=ah Jl;have y5:=Jl.box.c5;have f5:=Jl.box.fz 5;have hC:=Jl.ltC;by_cases hlt:k<E.t.funcs.length
  ·have Jh:Hid (J=dj E.t m k ((E.t.funcs.length-(k+1))+1)):=by
    show _=_;rw[Jb.o];congr 1;omega
   have t0:=((Xh.o.below U).cell k hlt).1;have Jv:=ah (kF E.t _ k wr hlt Jr (Xa.o.below U));by_cases hkm:k=m
   ·subst hkm;have b1:((k:Int) == (k:Int))=true:=i_
    go_wp2_with fail;refine Jv.o.mono ?_;rintro e w3 ⟨v3,Je,rfl,Ja,Jg,I⟩;obtain⟨g3,c3,rfl,-,-⟩:=Ja.form o_;have t3:=(Ja.cell k hlt).1;have Jq:Bl w2 w3:=U.trans (I.mono U.size);have Ji:Hid (Cs E w3 [] [] v bt tk (-1) (-1)):=Jn.o.below I;have z5:=(I.cell (p:=⟨E.C,5,none⟩) hC).trans y5;have zf:=(I.frozen (p:=⟨E.C,5,none⟩) hC).trans f5;by_cases ho:k∈Je
    ·have HE:Hid (J=(7,(k:Int),-1)):=by show _=_;rw[Jh.o];exact jX ⟨.inl rfl,(Jg k).1 ho⟩
     rw[decide_eq_true ho]at t3;have Y:=ah (Ji.o.put 5 _ (Ji.o.box.s5 (k:Int)));go_wp2_with fail;refine(dg E.C 7 (k:Int) (-1) _ Y.o.box.c5 Y.o.box.c6).mono ?_;rintro e w5 ⟨rfl,hw⟩;rw[hw];go_wp2;go_ret;exact⟨aG (by rw[HE.o];rfl),Y.o.base⟩
    ·have Z:Hid (J=dj E.t k (k+1) (E.t.funcs.length-(k+1))):=by show _=_;rw[Jh.o];exact fR (λh=>ho ((Jg k).2 h.2))
     rw[decide_eq_false ho]at t3;go_wp2;go_roundw
     case rel=>exact⟨k+1,o_,by go_num,Z,Jq⟩
     case measure=>exact FW
   have b1:((k:Int) == (m:Int))=false:=by
    have:¬(k:Int)=(m:Int):=o_;simpa using this
   by_cases hko:k∈out
   ·have HA:Hid (k=m∨kQ E.t m k):=.inr ((Jk k).1 hko);rw[decide_eq_true hko]at t0;go_wp2_with fail;refine Jv.o.mono ?_;rintro e w3 ⟨v3,Je,rfl,Ja,Jg,I⟩;obtain⟨g3,c3,rfl,-,-⟩:=Ja.form o_;have t3:=(Ja.cell k hlt).1;have Jq:Bl w2 w3:=U.trans (I.mono U.size);have Ji:Hid (Cs E w3 [] [] v bt tk (-1) (-1)):=Jn.o.below I;have z5:=(I.cell (p:=⟨E.C,5,none⟩) hC).trans y5;have zf:=(I.frozen (p:=⟨E.C,5,none⟩) hC).trans f5;by_cases ho:k∈Je
    ·have HE:Hid (J=(7,(k:Int),-1)):=by show _=_;rw[Jh.o];exact jX ⟨HA,(Jg k).1 ho⟩
     rw[decide_eq_true ho]at t3;have Y:=ah (Ji.o.put 5 _ (Ji.o.box.s5 (k:Int)));go_wp2_with fail;refine(dg E.C 7 (k:Int) (-1) _ Y.o.box.c5 Y.o.box.c6).mono ?_;rintro e w5 ⟨rfl,hw⟩;rw[hw];go_wp2;go_ret;exact⟨aG (by rw[HE.o];rfl),Y.o.base⟩
    ·have Z:Hid (J=dj E.t m (k+1) (E.t.funcs.length-(k+1))):=by show _=_;rw[Jh.o];exact fR (λh=>ho ((Jg k).2 h.2))
     rw[decide_eq_false ho]at t3;go_wp2;go_roundw
     case rel=>exact⟨k+1,o_,by go_num,Z,Jq⟩
     case measure=>exact FW
   ·have Z:Hid (J=dj E.t m (k+1) (E.t.funcs.length-(k+1))):=by
     show _=_;rw[Jh.o];refine fR (λh=>?_);rcases h.1 with h1|h1
     ·exact hkm h1
     ·exact hko ((Jk k).2 h1)
    rw[decide_eq_false hko]at t0;go_wp2;go_roundw
    case rel=>exact⟨k+1,o_,by go_num,Z,U⟩
    case measure=>exact FW
  ·have Z:Hid (J=(0,-1,-1)):=by
    show _=_;have e:E.t.funcs.length-k=0:=o_;rw[Jb.o,e];rfl
   go_wp2;go_ret;exact⟨aG (by rw[Z.o];rfl),Jn.o.base⟩
end Go.Proofs.YtffnkkpmlplfeaaGreatDoor
