import Derived.Test.YtffnkkpmlplfeaaGreatDoorF02
import Derived.Test.YtffnkkpmlplfeaaGreatDoorF05
namespace Go.Proofs.YtffnkkpmlplfeaaGreatDoor
open Go.Proofs.Tryz Go.RowKit
set_option linter.all false
set_option maxRecDepth 100000
set_option maxHeartbeats 0
section
variable{D:DataW Unit}{W:World}{b nn:Nat}{s:ByteArray}{gs:List Gl}
structure dy (D:DataW Unit) (f:ByteArray->Option Int):Prop where
 map:Maps.IsMap D
 has:∀s,Maps.has D (kS s)=(f s).isSome
 val:∀s z,f s=some z->D.atKey (kS s) (.lit (.int .i64 0))=.lit (.int .i64 z)
theorem dy.nil:dy (.map []) (λ_=>none):=⟨Maps.isMap_empty,λs=>rfl,λs i h=>by cases h⟩
def kN(f:ByteArray->Option Int)(n:ByteArray)(z:Int):ByteArray->Option Int:=λs=>if n=s then some z else f s
theorem dy.put{f:ByteArray->Option Int}(h:dy D f)(n:ByteArray)(z:Int):dy (D.put (kS n) (.lit (.int .i64 z))) (kN f n z):=by
 refine⟨h.map.put _ _,λs=>?_,λs i hi=>?_⟩
 ·unfold kN;by_cases hs:n=s
  ·subst hs;rw[Maps.has_put_same (k:=kS n) h.map trivial];simp
  ·rw[Maps.has_put_other (ky (Ne.symm hs)),h.has s];simp[hs]
 ·unfold kN at hi;by_cases hs:n=s
  ·subst hs;simp at hi;subst hi;rw[Maps.atKey_put_same (k:=kS n) h.map trivial]
  ·rw[Maps.atKey_put_other (ky (Ne.symm hs))];simp[hs]at hi;exact h.val s i hi
theorem qh{f:ByteArray->Option Int}(Jb:W.ownsMap prog 9 (plainElem (H:=Unit) prog 2) b nn D)(Z:dy D f)(hs:s.size<=maxLen){z:Int}(h:f s=some z):
  (Instr.lookup 77 (.map (some b)) (sV s) true).run prog W=.ok (.tuple #[V z,.bool true]) W:=by
 obtain⟨v,ps,Y,J⟩:=Jb.look_ok (Maps.string_keyed underlying9) underlying77 (zeroValue2 _) (plainElem_int underlying2 d_) (WideMaps.keyOf_string_mk underlying9 hs);rw[Z.val s z h]at J;obtain⟨c,rfl,I,_⟩:=plainElem_int_inv underlying2 J;simp only[Prod.mk.injEq,DataW.lit.injEq,Lit.int.injEq,true_and]at I;obtain⟨I,-⟩:=I;subst I;have U:=Z.has s;rw[h]at U;rw[U]at Y;exact Y
theorem qi{f:ByteArray->Option Int}(Z:W.ownsMap prog 9 (plainElem (H:=Unit) prog 2) b nn D)(hN:dy D f)(hs:s.size<=maxLen)(h:f s=none):
  (Instr.lookup 77 (.map (some b)) (sV s) true).run prog W=.ok (.tuple #[V 0,.bool false]) W:=by
 obtain⟨v,ps,Y,U⟩:=Z.look_ok (Maps.string_keyed underlying9) underlying77 (zeroValue2 _) (plainElem_int underlying2 d_) (WideMaps.keyOf_string_mk underlying9 hs);have J:=hN.has s;rw[h]at J;rw[Maps.atKey_of_not_has J]at U;obtain⟨c,rfl,I,_⟩:=plainElem_int_inv underlying2 U;simp only[Prod.mk.injEq,DataW.lit.injEq,Lit.int.injEq,true_and]at I;obtain⟨I,-⟩:=I;subst I;rw[J]at Y;exact Y
def findS:List (ByteArray->Option Int)->ByteArray->Option Int
 | [],_=>none
 | f::r,s=>(findS r s).or (f s)
def cV(gs:List Gl):ByteArray->Option Int:=λs=>(gs.find? (λg=>decide (g.name=s))).map (·.size)
def i9(xs:List ByteArray):ByteArray->Option Int:=λs=>if du xs s then some 0 else none
theorem uW:i9 []=λ_=>none:=by funext s;simp[i9,du]
theorem rY(I:List ByteArray)(n:ByteArray):kN (i9 I) n 0=i9 (I++[n]):=by
 funext s
 unfold kN i9;rw[jc];by_cases h:n=s
 ·simp[h,du]
 ·have e:du [n] s=false:=oO (λj hj=>by simp at hj;subst hj;simpa using h);simp[h,e]
theorem tX(I:∀g∈gs,0<=g.size):(cV gs s=none/\globI gs s= -1)∨(∃z,cV gs s=some z/\globI gs s=z/\0<=z):=by
 induction gs with
 | nil=>exact .inl ⟨rfl,rfl⟩
 | cons g r ih=>
  by_cases h:g.name=s
  ·refine .inr ⟨g.size,?_,?_,I g i_⟩
   ·simp[cV,h]
   ·simp[globI,h]
  ·have:=ih (λx hx=>I x (by simp[hx]))
   simpa[cV,globI,h]using this
def eI(gs:List Gl)(bs:List (List ByteArray)):List (ByteArray->Option Int):=cV gs::bs.map i9
theorem qj(bs:List (List ByteArray))(s:ByteArray):findS (bs.map i9) s=if du bs.flatten s then some 0 else none:=by
 induction bs with
 | nil=>simp[findS,du]
 | cons b r ih=>
  simp only[List.map_cons,findS,ih,List.flatten_cons,jc];by_cases h1:du r.flatten s=true
  ·simp[h1]
  ·simp[h1,i9]
theorem oV(gs:List Gl)(bs:List (List ByteArray))(s:ByteArray):findS (eI gs bs) s=if du bs.flatten s then some 0 else cV gs s:=by
 unfold eI;simp only[findS,qj];by_cases h1:du bs.flatten s=true
 ·simp[h1]
 ·simp[h1]
theorem uX{bs:List (List ByteArray)}{J:Bool}(U:∀g∈gs,0<=g.size):
  dR gs bs.flatten s J=match findS (eI gs bs) s with|none=>4|some z=>if decide (z>0)=J then 0 else 5:=by
 rw[oV];unfold dR;by_cases h1:du bs.flatten s=true
 ·simp[h1]
 ·simp only[h1,Bool.false_eq_true,if_false];rcases tX (s:=s) U with⟨I,h⟩|⟨z,I,h,Y⟩
  ·rw[I,h];simp
  ·rw[I,h];simp only;rw[if_neg o_]
end
theorem dg(C:Nat)(e h st:Int)(w:World)(h5:w.cell? ⟨C,5,none⟩=some (V h))(h6:w.cell? ⟨C,6,none⟩=some (V st)):
  Calls prog 104 #[pV C,V e] w λev w'=>ev=rW (.iface 205 (.agg #[V e,V h,V st]))/\w'=w:=by
 go_in;go_wp2;go_ret;exact⟨rfl,rfl⟩
theorem uY{W:World}{b nn:Nat}{D:DataW Unit}{f:ByteArray->Option Int}(Y:W.ownsMap prog 9 (plainElem (H:=Unit) prog 2) b nn D)(hN:dy D f){s:ByteArray}(Z:s.size<=maxLen)(h:f s=none):
  (Instr.lookup 77 (.map (some b)) (sV s) false).run prog W=.ok (V 0) W:=by
 obtain⟨c,U,I,_⟩:=Y.lookup_int (Maps.string_keyed underlying9) underlying77 underlying2 (zeroValue2 _) (WideMaps.keyOf_string_mk underlying9 Z);have J:=hN.has s;rw[h]at J;rw[Maps.atKey_of_not_has J]at I;simp only[DataW.lit.injEq,Lit.int.injEq,true_and]at I;subst I;exact U
theorem yl(C I nn:Nat)(h st:Int)(D:DataW Unit)(f:ByteArray->Option Int)(s:ByteArray)(z:Int)(w:World)(h4:w.cell? ⟨C,4,none⟩=some (.map (some I)))(h5:w.cell? ⟨C,5,none⟩=some (.int .i64 h))(h6:w.cell? ⟨C,6,none⟩=some (.int .i64 st))
  (Y:w.ownsMap prog 9 (plainElem (H:=Unit) prog 2) I nn D) (Z:dy D f) (hs:s.size<=maxLen) (U:f s=some z):
  Calls prog 137 #[pV C,sV s] w λev w'=>ev=rW (.iface 205 (.agg #[V 2,V h,V st]))/\w'=w:=by
 have Jb:=qh Y Z hs U;go_in;go_wp2_with fail;refine(dg C 2 h st _ h5 h6).mono ?_;rintro e w1 ⟨rfl,J⟩;rw[J];go_wp2;go_ret;exact⟨rfl,rfl⟩
theorem ym(C h nn:Nat)(D:DataW Unit)(f:ByteArray->Option Int)(s:ByteArray)(w:World)(h4:w.cell? ⟨C,4,none⟩=some (.map (some h)))
  (J:w.ownsMap prog 9 (plainElem (H:=Unit) prog 2) h nn D) (I:dy D f) (hn:nn<1000000000) (U:s.size<=maxLen) (Y:f s=none):
  Calls prog 137 #[pV C,sV s] w λev w'=>ev=.returned .nilIface/\∃D',w'.ownsMap prog 9 (plainElem (H:=Unit) prog 2) h (nn+1) D'/\dy D' (kN f s 1)/\w.grownBy w' (some h):=by
 have Je:=qi J I U Y;have Jd:=uY J I U Y;obtain⟨HO,HM,HS⟩:=h3 J I U;go_in;go_wp2_with(at_mapUpdate;refine wpList_mapUpdate_own _ rfl _ _ _ 77 rfl 9 2 (Maps.string_keyed underlying9) underlying77 _ h nn D rfl HO (by unfold maxLen;omega) _ _ _ rfl rfl (WideMaps.keyOf_string_mk underlying9 HS) _ [] (plainElem_int underlying2 (WalkArith.wf_i64 o_)) ?_);intro w1 Jc Ja;obtain⟨Jf,Z⟩:=h2 Jc Ja;go_wp2;go_ret;exact⟨rfl,_,Jf,HM.out.put s 1,Z⟩
end Go.Proofs.YtffnkkpmlplfeaaGreatDoor
