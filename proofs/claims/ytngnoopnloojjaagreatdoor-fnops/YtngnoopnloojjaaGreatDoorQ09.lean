import Derived.Test.YtngnoopnloojjaaGreatDoorQ03
import Derived.Test.YtngnoopnloojjaaGreatDoorQ05
namespace Go.Proofs.YtngnoopnloojjaaGreatDoor
open List
open Go.Proofs.Tryz Go.RowKit
set_option linter.all false
set_option maxRecDepth 100000
set_option maxHeartbeats 0
variable[Inhabited Pick]
section
variable{D:DataW Unit}{W:AT}{b nn:Nat}{s:IF}{gs:List Gl}
structure dT (D:DataW Unit) (f:IF->Option Int):Prop where
 map:Maps.IsMap D
 has:∀s,Maps.has D (kS s)=(f s).isSome
 val:∀s z,f s=some z->D.atKey (kS s) (.lit (.int .i64 0))=.lit (.int .i64 z)
def dT.nil:dT (.map []) (λ_=>none):=⟨Maps.isMap_empty,λs=>rfl,λs i h=>by cases h⟩
def oz(f:IF->Option Int)(n:IF)(z:Int):IF->Option Int:=λs=>if n=s then some z else f s
def dT.put{f:IF->Option Int}(h:dT D f)(n:IF)(z:Int):dT (D.put (kS n) (.lit (.int .i64 z))) (oz f n z):=by refine⟨h.map.put _ _,λs=>?_,λs i hi=>?_⟩;unfold oz;by_cases hs:n=s;subst hs;rw[Maps.has_put_same (k:=kS n) h.map trivial];simp;rw[Maps.has_put_other (pp (Ne.symm hs)),h.has s];simp[hs];unfold oz at hi;by_cases hs:n=s;subst hs;simp at hi;subst hi;rw[Maps.atKey_put_same (k:=kS n) h.map trivial];rw[Maps.atKey_put_other (pp (Ne.symm hs))];simp[hs]at hi;exact h.val s i hi
def vB{f:IF->Option Int}(Jb:W.ownsMap prog 9 (plainElem (H:=Unit) prog 2) b nn D)(U:dT D f)(X:s.size<=maxLen){z:Int}(h:f s=some z):
  (Instr.lookup 131 (.map (some b)) (sV s) true).run prog W=.ok (.tuple #[V z,.bool true]) W:=by
 have⟨v,ps,Ja,J⟩:=Jb.look_ok (Maps.string_keyed underlying9) underlying131 (zeroValue2 _) (plainElem_int underlying2 d_) (WideMaps.keyOf_string_mk underlying9 X);rw[U.val s z h]at J;obtain⟨c,rfl,I,_⟩:=plainElem_int_inv underlying2 J;simp only[Prod.mk.injEq,DataW.lit.injEq,Lit.int.injEq,true_and]at I;obtain⟨I,-⟩:=I;subst I;have O:=U.has s;rw[h]at O;rw[O]at Ja;exact Ja
def vC{f:IF->Option Int}(Jb:W.ownsMap prog 9 (plainElem (H:=Unit) prog 2) b nn D)(X:dT D f)(U:s.size<=maxLen)(h:f s=none):
  (Instr.lookup 131 (.map (some b)) (sV s) true).run prog W=.ok (.tuple #[V 0,.bool false]) W:=by
 have⟨v,ps,Ja,O⟩:=Jb.look_ok (Maps.string_keyed underlying9) underlying131 (zeroValue2 _) (plainElem_int underlying2 d_) (WideMaps.keyOf_string_mk underlying9 U);have J:=X.has s;rw[h]at J;rw[Maps.atKey_of_not_has J]at O;obtain⟨c,rfl,I,_⟩:=plainElem_int_inv underlying2 O;simp only[Prod.mk.injEq,DataW.lit.injEq,Lit.int.injEq,true_and]at I;obtain⟨I,-⟩:=I;subst I;rw[J]at Ja;exact Ja
def findS:List (IF->Option Int)->IF->Option Int
 | [],_=>none
 | f::r,s=>(findS r s).or (f s)
def cP(gs:List Gl):IF->Option Int:=λs=>(gs.find? (λg=>decide (g.nm=s))).map (·.size)
def kT(xs:List IF):IF->Option Int:=λs=>if fT xs s then some 0 else none
def BL:kT []=λ_=>none:=by funext s;simp[kT,fT]
def yC(H:List IF)(n:IF):oz (kT H) n 0=kT (H++[n]):=by
 funext s
 unfold oz kT;rw[lu];by_cases h:n=s;simp[h,fT];have e:fT [n] s=false:=D0 (λj hj=>by simp at hj;subst hj;simpa using h);simp[h,e]
theorem Ay(H:∀g∈gs,0<=g.size):(cP gs s=none/\globI gs s= -1)\/(∃z,cP gs s=some z/\globI gs s=z/\0<=z):=by
 induction gs with
 | nil=>exact .inl ⟨rfl,rfl⟩
 | cons g r ih=>
  by_cases h:g.nm=s;refine .inr ⟨g.size,?_,?_,H g i_⟩;simp[cP,h];simp[globI,h]
  have:=ih (λx hx=>H x (by simp[hx]))
  simpa[cP,globI,h]using this
def fH(gs:List Gl)(bs:List (List IF)):List (IF->Option Int):=cP gs::bs.map kT
theorem vD(bs:List (List IF))(s:IF):findS (bs.map kT) s=if fT bs.flatten s then some 0 else none:=by
 induction bs with
 | nil=>simp[findS,fT]
 | cons b r ih=>simp only[map_cons,findS,ih,flatten_cons,lu];by_cases h1:fT r.flatten s=true;simp[h1];simp[h1,kT]
def tQ(h:List Gl)(bs:List (List IF))(s:IF):findS (fH h bs) s=if fT bs.flatten s then some 0 else cP h s:=by unfold fH;simp only[findS,vD];by_cases h1:fT bs.flatten s=true;simp[h1];simp[h1]
theorem BM{bs:List (List IF)}{Ja:Bool}(I:∀g∈gs,0<=g.size):
  pq gs bs.flatten s Ja=match findS (fH gs bs) s with|none=>4|some z=>if decide (z>0)=Ja then 0 else 5:=by
 rw[tQ];unfold pq;by_cases h1:fT bs.flatten s=true;simp[h1];simp only[h1,Bool.false_eq_true,if_false];rcases Ay (s:=s) I with⟨H,h⟩|⟨z,H,h,J⟩;rw[H,h];simp;rw[H,h];simp only;rw[if_neg o_]
end
def di(C:Nat)(e H st:Int)(w:AT)(h5:Bo w C 5 (V H))(h6:Bo w C 6 (V st)):
  Calls prog 74 #[pV C,V e] w λev w'=>ev=rW (.iface 123 (.agg #[V e,V H,V st]))/\w'=w:=by
 go_in;go_wp2;go_ret;exact⟨rfl,rfl⟩
def BN{W:AT}{b nn:Nat}{D:DataW Unit}{f:IF->Option Int}(Jb:W.ownsMap prog 9 (plainElem (H:=Unit) prog 2) b nn D)(U:dT D f){s:IF}(O:s.size<=maxLen)(h:f s=none):
  (Instr.lookup 131 (.map (some b)) (sV s) false).run prog W=.ok (V 0) W:=by
 have⟨c,Ja,I,_⟩:=Jb.lookup_int (Maps.string_keyed underlying9) underlying131 underlying2 (zeroValue2 _) (WideMaps.keyOf_string_mk underlying9 O);have J:=U.has s;rw[h]at J;rw[Maps.atKey_of_not_has J]at I;simp only[DataW.lit.injEq,Lit.int.injEq,true_and]at I;subst I;exact Ja
def El(C J nn:Nat)(I st:Int)(D:DataW Unit)(f:IF->Option Int)(s:IF)(z:Int)(w:AT)(h4:Bo w C 4 (.map (some J)))(h5:Bo w C 5 (.int .i64 I))(h6:Bo w C 6 (.int .i64 st))
  (Ja:w.ownsMap prog 9 (plainElem (H:=Unit) prog 2) J nn D) (X:dT D f) (Y:s.size<=maxLen) (U:f s=some z):
  Calls prog 123 #[pV C,sV s] w λev w'=>ev=rW (.iface 123 (.agg #[V 2,V I,V st]))/\w'=w:=by
 have Jb:=vB Ja X Y U;go_in;go_wp2_with fail;refine(di C 2 I st _ h5 h6).mono ?_;rintro e w1 ⟨rfl,O⟩;rw[O];go_wp2;go_ret;exact⟨rfl,rfl⟩
def En(C I nn:Nat)(D:DataW Unit)(f:IF->Option Int)(s:IF)(w:AT)(h4:Bo w C 4 (.map (some I)))
  (Jb:w.ownsMap prog 9 (plainElem (H:=Unit) prog 2) I nn D) (J:dT D f) (hn:nn<1000000000) (O:s.size<=maxLen) (U:f s=none):
  Calls prog 123 #[pV C,sV s] w λev w'=>ev=.returned .nilIface/\∃D',w'.ownsMap prog 9 (plainElem (H:=Unit) prog 2) I (nn+1) D'/\dT D' (oz f s 1)/\w.grownBy w' (some I):=by
 have Je:=vC Jb J O U;have Jd:=BN Jb J O U;have⟨Y,Z,HS⟩:=h3 Jb J O;go_in;go_wp2_with(at_mapUpdate;refine wpList_mapUpdate_own _ rfl _ _ _ 131 rfl 9 2 (Maps.string_keyed underlying9) underlying131 _ I nn D rfl Y (by unfold maxLen;omega) _ _ _ rfl rfl (WideMaps.keyOf_string_mk underlying9 HS) _ [] (plainElem_int underlying2 (WalkArith.wf_i64 o_)) ?_);intro w1 Jc Ja;have⟨Jf,X⟩:=h2 Jc Ja;go_wp2;go_ret;exact⟨rfl,_,Jf,Z.o.put s 1,X⟩
end Go.Proofs.YtngnoopnloojjaaGreatDoor
