import Derived.Test.YtffnkkpmlplfeaaGreatDoorN02
import Derived.Test.YtffnkkpmlplfeaaGreatDoorN05
namespace Go.Proofs.YtffnkkpmlplfeaaGreatDoor
open Go.Proofs.Tryz
open Go.RowKit
set_option linter.all false
set_option maxRecDepth 100000
set_option maxHeartbeats 16000000
variable[Inhabited Pick]
section
variable {D:DataW Unit} {W:World} {b nn:Nat} {s:ByteArray} {gs:List Gl}
structure MapIs (D:DataW Unit) (f:ByteArray->Option Int):Prop where
 map:Maps.IsMap D
 has : ∀s,Maps.has D (kS s)=(f s).isSome
 val : ∀s z,f s=some z->D.atKey (kS s) (.lit (.int .i64 0))=.lit (.int .i64 z)
theorem MapIs.nil:MapIs (.map []) (λ_=>none):=⟨Maps.isMap_empty,λs=>rfl,λs i h=>by cases h⟩
def setN (f:ByteArray->Option Int) (n:ByteArray) (z:Int):ByteArray->Option Int:=λs=>if n=s then some z else f s
theorem MapIs.put {f:ByteArray->Option Int} (h:MapIs D f) (n:ByteArray) (z:Int):MapIs (D.put (kS n) (.lit (.int .i64 z))) (setN f n z):=by
 refine⟨h.map.put _ _,λs => ?_,λs i hi => ?_⟩
 ·unfold setN;by_cases hs:n=s
  ·subst hs;rw[Maps.has_put_same (k:=kS n) h.map trivial];simp
  ·rw[Maps.has_put_other (kS_ne (Ne.symm hs)),h.has s];simp[hs]
 ·unfold setN at hi;by_cases hs:n=s
  ·subst hs;simp at hi;subst hi;rw[Maps.atKey_put_same (k:=kS n) h.map trivial]
  ·rw[Maps.atKey_put_other (kS_ne (Ne.symm hs))];simp[hs] at hi;exact h.val s i hi
theorem look_yes {f:ByteArray->Option Int} (hown:W.ownsMap prog 9 (plainElem (H:=Unit) prog 2) b nn D) (hN:MapIs D f) (hs:s.size<=maxLen) {z:Int} (h:f s=some z) :
  (Instr.lookup 77 (.map (some b)) (.string s) true).run prog W=.ok (.tuple #[.int .i64 z,.bool true]) W:=by
 obtain⟨v,ps,hrun,hv⟩:=hown.look_ok (Maps.string_keyed underlying9) underlying77 (zeroValue2 _) (plainElem_int underlying2 (by decide)) (WideMaps.keyOf_string_mk underlying9 hs);rw[hN.val s z h] at hv;obtain⟨c,rfl,hc,_⟩:=plainElem_int_inv underlying2 hv;simp only[Prod.mk.injEq,DataW.lit.injEq,Lit.int.injEq,true_and] at hc;obtain⟨hc,-⟩:=hc;subst hc;have hh:=hN.has s;rw[h] at hh;rw[hh] at hrun;exact hrun
theorem look_not {f:ByteArray->Option Int} (hown:W.ownsMap prog 9 (plainElem (H:=Unit) prog 2) b nn D) (hN:MapIs D f) (hs:s.size<=maxLen) (h:f s=none) :
  (Instr.lookup 77 (.map (some b)) (.string s) true).run prog W=.ok (.tuple #[.int .i64 0,.bool false]) W:=by
 obtain⟨v,ps,hrun,hv⟩:=hown.look_ok (Maps.string_keyed underlying9) underlying77 (zeroValue2 _) (plainElem_int underlying2 (by decide)) (WideMaps.keyOf_string_mk underlying9 hs);have hh:=hN.has s;rw[h] at hh;rw[Maps.atKey_of_not_has hh] at hv;obtain⟨c,rfl,hc,_⟩:=plainElem_int_inv underlying2 hv;simp only[Prod.mk.injEq,DataW.lit.injEq,Lit.int.injEq,true_and] at hc;obtain⟨hc,-⟩:=hc;subst hc;rw[hh] at hrun;exact hrun
def findS:List (ByteArray->Option Int)->ByteArray->Option Int
 | [],_=>none
 | f::r,s=>(findS r s).or (f s)
def globF (gs:List Gl):ByteArray->Option Int:=λs=>(gs.find? (λg=>decide (g.name=s))).map (·.size)
def wordF (xs:List ByteArray):ByteArray->Option Int:=λs=>if inS xs s then some 0 else none
theorem wordF_nil:wordF []=λ_=>none:=by funext s;simp[wordF,inS]
theorem wordF_snoc (xs:List ByteArray) (n:ByteArray):setN (wordF xs) n 0=wordF (xs++[n]):=by
 funext s
 unfold setN wordF;rw[inS_append];by_cases h:n=s
 ·simp[h,inS]
 ·have e:inS [n] s=false:=inS_no (λj hj=>by simp at hj;subst hj;simpa using h);simp[h,e]
theorem globF_I (hp : ∀g∈gs,0<=g.size):(globF gs s=none/\globI gs s = -1)∨(∃z,globF gs s=some z/\globI gs s=z/\0<=z):=by
 induction gs with
 | nil=>exact .inl ⟨rfl,rfl⟩
 | cons g r ih=>
  by_cases h:g.name=s
  ·refine .inr ⟨g.size,?_,?_,hp g (by simp)⟩
   ·simp[globF,h]
   ·simp[globI,h]
  ·have:=ih (λx hx=>hp x (by simp[hx]))
   simpa[globF,globI,h] using this
def scopesF (gs:List Gl) (bs:List (List ByteArray)):List (ByteArray->Option Int):=globF gs::bs.map wordF
theorem findS_words (bs:List (List ByteArray)) (s:ByteArray):findS (bs.map wordF) s=if inS bs.flatten s then some 0 else none:=by
 induction bs with
 | nil=>simp[findS,inS]
 | cons b r ih=>
  simp only[List.map_cons,findS,ih,List.flatten_cons,inS_append];by_cases h1:inS r.flatten s=true
  ·simp[h1]
  ·simp[h1,wordF]
theorem findS_scopes (gs:List Gl) (bs:List (List ByteArray)) (s:ByteArray):findS (scopesF gs bs) s=if inS bs.flatten s then some 0 else globF gs s:=by
 unfold scopesF;simp only[findS,findS_words];by_cases h1:inS bs.flatten s=true
 ·simp[h1]
 ·simp[h1]
theorem useE_find {bs:List (List ByteArray)} {arr:Bool} (hp : ∀g∈gs,0<=g.size) :
  useE gs bs.flatten s arr=match findS (scopesF gs bs) s with|none=>4|some z=>if decide (z>0)=arr then 0 else 5:=by
 rw[findS_scopes];unfold useE;by_cases h1:inS bs.flatten s=true
 ·simp[h1]
 ·simp only[h1,Bool.false_eq_true,if_false];rcases globF_I (s:=s) hp with ⟨e1,e2⟩|⟨z,e1,e2,hz⟩
  ·rw[e1,e2];simp
  ·rw[e1,e2];simp only;rw[if_neg o_]
end
theorem fault_any (C:Nat) (e fn st:Int) (w:World) (h5:w.cell? ⟨C,5,none⟩=some (.int .i64 fn)) (h6:w.cell? ⟨C,6,none⟩=some (.int .i64 st)) :
  Calls prog 104 #[.pointer (some ⟨C,0,none⟩),.int .i64 e] w λev w'=>ev=.returned (.iface 205 (.agg #[.int .i64 e,.int .i64 fn,.int .i64 st]))/\w'=w:=by
 go_enter func104,ntmps104;go_wp2;go_ret;exact⟨rfl,rfl⟩
theorem look_zero {W:World} {b nn:Nat} {D:DataW Unit} {f:ByteArray->Option Int} (hown:W.ownsMap prog 9 (plainElem (H:=Unit) prog 2) b nn D) (hN:MapIs D f) {s:ByteArray} (hs:s.size<=maxLen) (h:f s=none) :
  (Instr.lookup 77 (.map (some b)) (.string s) false).run prog W=.ok (.int .i64 0) W:=by
 obtain⟨c,hrun,hc,_⟩:=hown.lookup_int (Maps.string_keyed underlying9) underlying77 underlying2 (zeroValue2 _) (WideMaps.keyOf_string_mk underlying9 hs);have hh:=hN.has s;rw[h] at hh;rw[Maps.atKey_of_not_has hh] at hc;simp only[DataW.lit.injEq,Lit.int.injEq,true_and] at hc;subst hc;exact hrun
theorem take_old (C bt nn:Nat) (fn st:Int) (D:DataW Unit) (f:ByteArray->Option Int) (s:ByteArray) (z:Int) (w:World) (h4:w.cell? ⟨C,4,none⟩=some (.map (some bt))) (h5:w.cell? ⟨C,5,none⟩=some (.int .i64 fn)) (h6:w.cell? ⟨C,6,none⟩=some (.int .i64 st))
  (hown:w.ownsMap prog 9 (plainElem (H:=Unit) prog 2) bt nn D) (hM:MapIs D f) (hs:s.size<=maxLen) (hf:f s=some z) :
  Calls prog 137 #[.pointer (some ⟨C,0,none⟩),.string s] w λev w'=>ev=.returned (.iface 205 (.agg #[.int .i64 2,.int .i64 fn,.int .i64 st]))/\w'=w:=by
 have hlook:=look_yes hown hM hs hf;go_enter func137,ntmps137;go_wp2_with fail;refine (fault_any C 2 fn st _ h5 h6).mono ?_;rintro e w1 ⟨rfl,hw⟩;rw[hw];go_wp2;go_ret;exact⟨rfl,rfl⟩
theorem take_new (C bt nn:Nat) (D:DataW Unit) (f:ByteArray->Option Int) (s:ByteArray) (w:World) (h4:w.cell? ⟨C,4,none⟩=some (.map (some bt)))
  (hown:w.ownsMap prog 9 (plainElem (H:=Unit) prog 2) bt nn D) (hM:MapIs D f) (hn:nn<1000000000) (hs:s.size<=maxLen) (hf:f s=none) :
  Calls prog 137 #[.pointer (some ⟨C,0,none⟩),.string s] w λev w'=>ev=.returned .nilIface/\∃D',w'.ownsMap prog 9 (plainElem (H:=Unit) prog 2) bt (nn+1) D'/\MapIs D' (setN f s 1)/\w.grownBy w' (some bt):=by
 have hlook:=look_not hown hM hs hf;have hlook0:=look_zero hown hM hs hf;obtain⟨HO,HM,HS⟩:=h3 hown hM hs;go_enter func137,ntmps137;go_wp2_with (at_mapUpdate;refine wpList_mapUpdate_own _ rfl _ _ _ 77 rfl 9 2 (Maps.string_keyed underlying9) underlying77 _ bt nn D rfl HO (by unfold maxLen;omega) _ _ _ rfl rfl (WideMaps.keyOf_string_mk underlying9 HS) _ [] (plainElem_int underlying2 (WalkArith.wf_i64 o_)) ?_)
 intro w1 hown1 hgrow1;obtain⟨HO1,HG⟩:=h2 hown1 hgrow1;go_wp2;go_ret;exact⟨rfl,_,HO1,HM.o.put s 1,HG⟩
end Go.Proofs.YtffnkkpmlplfeaaGreatDoor
