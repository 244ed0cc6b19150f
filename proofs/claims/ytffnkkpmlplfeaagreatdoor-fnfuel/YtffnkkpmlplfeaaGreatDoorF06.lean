import Derived.Test.YtffnkkpmlplfeaaGreatDoorF02
import Derived.Test.YtffnkkpmlplfeaaGreatDoorF05
namespace Go.Proofs.YtffnkkpmlplfeaaGreatDoor
open List
open Go.Proofs.Tryz Go.RowKit
set_option linter.all false
set_option maxRecDepth 100000
set_option maxHeartbeats 0
variable[Inhabited Pick]
section
variable{D:DataW Unit}{W:AT}{b nn:Nat}{s:GA}{gs:List Gl}
structure dy (D:DataW Unit) (f:GA->Option Int):Prop where
 map:Maps.IsMap D
 has:∀s,Maps.has D (kS s)=(f s).isSome
 val:∀s z,f s=some z->D.atKey (kS s) (.lit (.int .i64 0))=.lit (.int .i64 z)
def dy.nil:dy (.map []) (λ_=>none):=⟨Maps.isMap_empty,λs=>rfl,λs i h=>by cases h⟩
def kN(f:GA->Option Int)(n:GA)(z:Int):GA->Option Int:=λs=>if n=s then some z else f s
def dy.put{f:GA->Option Int}(h:dy D f)(n:GA)(z:Int):dy (D.put (kS n) (.lit (.int .i64 z))) (kN f n z):=by
 refine⟨h.map.put _ _,λs=>?_,λs i hi=>?_⟩
 ·unfold kN;by_cases hs:n=s
  ·subst hs;rw[Maps.has_put_same (k:=kS n) h.map trivial];simp
  ·rw[Maps.has_put_other (ky (Ne.symm hs)),h.has s];simp[hs]
 ·unfold kN at hi;by_cases hs:n=s
  ·subst hs;simp at hi;subst hi;rw[Maps.atKey_put_same (k:=kS n) h.map trivial]
  ·rw[Maps.atKey_put_other (ky (Ne.symm hs))];simp[hs]at hi;exact h.val s i hi
def qh{f:GA->Option Int}(Jb:W.ownsMap prog 9 (plainElem (H:=Unit) prog 2) b nn D)(Z:dy D f)(hs:s.size<=maxLen){z:Int}(h:f s=some z):
  (Instr.lookup 77 (.map (some b)) (sV s) true).run prog W=.ok (.tuple #[V z,.bool true]) W:=by
 obtain⟨v,ps,Y,J⟩:=Jb.look_ok (Maps.string_keyed underlying9) underlying77 (zeroValue2 _) (plainElem_int underlying2 d_) (WideMaps.keyOf_string_mk underlying9 hs);rw[Z.val s z h]at J;obtain⟨c,rfl,I,_⟩:=plainElem_int_inv underlying2 J;simp only[Prod.mk.injEq,DataW.lit.injEq,Lit.int.injEq,true_and]at I;obtain⟨I,-⟩:=I;subst I;have U:=Z.has s;rw[h]at U;rw[U]at Y;exact Y
def qi{f:GA->Option Int}(Z:W.ownsMap prog 9 (plainElem (H:=Unit) prog 2) b nn D)(hN:dy D f)(hs:s.size<=maxLen)(h:f s=none):
  (Instr.lookup 77 (.map (some b)) (sV s) true).run prog W=.ok (.tuple #[V 0,.bool false]) W:=by
 obtain⟨v,ps,Y,U⟩:=Z.look_ok (Maps.string_keyed underlying9) underlying77 (zeroValue2 _) (plainElem_int underlying2 d_) (WideMaps.keyOf_string_mk underlying9 hs);have J:=hN.has s;rw[h]at J;rw[Maps.atKey_of_not_has J]at U;obtain⟨c,rfl,I,_⟩:=plainElem_int_inv underlying2 U;simp only[Prod.mk.injEq,DataW.lit.injEq,Lit.int.injEq,true_and]at I;obtain⟨I,-⟩:=I;subst I;rw[J]at Y;exact Y
def findS:List (GA->Option Int)->GA->Option Int
 | [],_=>none
 | f::r,s=>(findS r s).or (f s)
def cV(gs:List Gl):GA->Option Int:=λs=>(gs.find? (λg=>decide (g.name=s))).map (·.size)
def i9(xs:List GA):GA->Option Int:=λs=>if du xs s then some 0 else none
def uW:i9 []=λ_=>none:=by funext s;simp[i9,du]
def rY(I:List GA)(n:GA):kN (i9 I) n 0=i9 (I++[n]):=by
 funext s
 unfold kN i9;rw[jc];by_cases h:n=s
 ·simp[h,du]
 ·have e:du [n] s=false:=oO (λj hj=>by simp at hj;subst hj;simpa using h);simp[h,e]
theorem tX(I:∀g∈gs,0<=g.size):(cV gs s=none/\globI gs s= -1)∨(∃z,cV gs s=some z/\globI gs s=z/\0<=z):=by
 induction gs with
 | nil=>exact .inl ⟨rfl,rfl⟩
 | cons g r ih=>
  by_cases h:g.name=s
  ·refine .inr ⟨g.size,?_,?_,I g i_⟩
   ·simp[cV,h]
   ·simp[globI,h]
  ·have:=ih (λx hx=>I x (by simp[hx]))
   simpa[cV,globI,h]using this
def eI(gs:List Gl)(bs:List (List GA)):List (GA->Option Int):=cV gs::bs.map i9
theorem qj(bs:List (List GA))(s:GA):findS (bs.map i9) s=if du bs.flatten s then some 0 else none:=by
 induction bs with
 | nil=>simp[findS,du]
 | cons b r ih=>
  simp only[map_cons,findS,ih,flatten_cons,jc];by_cases h1:du r.flatten s=true
  ·simp[h1]
  ·simp[h1,i9]
def oV(gs:List Gl)(bs:List (List GA))(s:GA):findS (eI gs bs) s=if du bs.flatten s then some 0 else cV gs s:=by
 unfold eI;simp only[findS,qj];by_cases h1:du bs.flatten s=true
 ·simp[h1]
 ·simp[h1]
theorem uX{bs:List (List GA)}{J:Bool}(U:∀g∈gs,0<=g.size):
  dR gs bs.flatten s J=match findS (eI gs bs) s with|none=>4|some z=>if decide (z>0)=J then 0 else 5:=by
 rw[oV];unfold dR;by_cases h1:du bs.flatten s=true
 ·simp[h1]
 ·simp only[h1,Bool.false_eq_true,if_false];rcases tX (s:=s) U with⟨I,h⟩|⟨z,I,h,Y⟩
  ·rw[I,h];simp
  ·rw[I,h];simp only;rw[if_neg o_]
end
def dg(C:Nat)(e h st:Int)(w:AT)(h5:DO w C 5 (V h))(h6:DO w C 6 (V st)):
  Calls prog 104 #[pV C,V e] w λev w'=>ev=rW (.iface 205 (.agg #[V e,V h,V st]))/\w'=w:=by
 go_in;go_wp2;go_ret;exact⟨rfl,rfl⟩
def uY{W:AT}{b nn:Nat}{D:DataW Unit}{f:GA->Option Int}(Y:W.ownsMap prog 9 (plainElem (H:=Unit) prog 2) b nn D)(hN:dy D f){s:GA}(Z:s.size<=maxLen)(h:f s=none):
  (Instr.lookup 77 (.map (some b)) (sV s) false).run prog W=.ok (V 0) W:=by
 obtain⟨c,U,I,_⟩:=Y.lookup_int (Maps.string_keyed underlying9) underlying77 underlying2 (zeroValue2 _) (WideMaps.keyOf_string_mk underlying9 Z);have J:=hN.has s;rw[h]at J;rw[Maps.atKey_of_not_has J]at I;simp only[DataW.lit.injEq,Lit.int.injEq,true_and]at I;subst I;exact U
def yl(C I nn:Nat)(h st:Int)(D:DataW Unit)(f:GA->Option Int)(s:GA)(z:Int)(w:AT)(h4:DO w C 4 (.map (some I)))(h5:DO w C 5 (.int .i64 h))(h6:DO w C 6 (.int .i64 st))
  (Y:w.ownsMap prog 9 (plainElem (H:=Unit) prog 2) I nn D) (Z:dy D f) (hs:s.size<=maxLen) (U:f s=some z):
  Calls prog 137 #[pV C,sV s] w λev w'=>ev=rW (.iface 205 (.agg #[V 2,V h,V st]))/\w'=w:=by
 have Jb:=qh Y Z hs U;go_in;go_wp2_with fail;refine(dg C 2 h st _ h5 h6).mono ?_;rintro e w1 ⟨rfl,J⟩;rw[J];go_wp2;go_ret;exact⟨rfl,rfl⟩
def ym(C h nn:Nat)(D:DataW Unit)(f:GA->Option Int)(s:GA)(w:AT)(h4:DO w C 4 (.map (some h)))
  (J:w.ownsMap prog 9 (plainElem (H:=Unit) prog 2) h nn D) (I:dy D f) (hn:nn<1000000000) (U:s.size<=maxLen) (Y:f s=none):
  Calls prog 137 #[pV C,sV s] w λev w'=>ev=.returned .nilIface/\∃D',w'.ownsMap prog 9 (plainElem (H:=Unit) prog 2) h (nn+1) D'/\dy D' (kN f s 1)/\w.grownBy w' (some h):=by
 have Je:=qi J I U Y;have Jd:=uY J I U Y;obtain⟨HO,HM,HS⟩:=h3 J I U;go_in;go_wp2_with(at_mapUpdate;refine wpList_mapUpdate_own _ rfl _ _ _ 77 rfl 9 2 (Maps.string_keyed underlying9) underlying77 _ h nn D rfl HO (by unfold maxLen;omega) _ _ _ rfl rfl (WideMaps.keyOf_string_mk underlying9 HS) _ [] (plainElem_int underlying2 (WalkArith.wf_i64 o_)) ?_);intro w1 Jc Ja;obtain⟨Jf,Z⟩:=h2 Jc Ja;go_wp2;go_ret;exact⟨rfl,_,Jf,HM.o.put s 1,Z⟩
end Go.Proofs.YtffnkkpmlplfeaaGreatDoor
