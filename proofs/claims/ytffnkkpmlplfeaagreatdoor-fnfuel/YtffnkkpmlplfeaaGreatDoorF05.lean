import Derived.Test.YtffnkkpmlplfeaaGreatDoorRows
import Derived.Test.YtffnkkpmlplfeaaGreatDoorF00
import Derived.WalkSpells
import Derived.ProofKit
import Derived.BigQuiet
namespace Go.Proofs.YtffnkkpmlplfeaaGreatDoor
open List
open Go.Proofs.Tryz Go.RowKit
set_option linter.all false
set_option maxRecDepth 100000
set_option maxHeartbeats 0
variable[Inhabited Pick]
def aj{a b:Bool}(h:a=b):Ending.returned (.bool a)=rW (.bool b):=by rw[h]
def iQ(c:Int)(w:AT):Calls prog 123 #[.int .u8 c] w λe w'=>e=rW (.bool (d9 c))/\w'=w:=by
 go_in;go_wp2
 all_goals go_ret
 all_goals (refine⟨aj ?_,rfl⟩;apply Bool.eq_iff_iff.2;simp[d9] <;> omega)
def nr(c:Int)(w:AT):Calls prog 125 #[.int .u8 c] w λe w'=>e=rW (.bool (gL c))/\w'=w:=by
 cases h:d9 c
 all_goals
  go_in;go_wp2_with(go_at_call 123;refine(iQ _ _).mono ?_;rintro e w' ⟨rfl,rfl⟩;rw[h])
  all_goals go_ret
  all_goals (refine⟨aj ?_,rfl⟩;apply Bool.eq_iff_iff.2;simp[gL,digitB,h] <;> omega)
def j_(c:Int)(w:AT):Calls prog 210 #[.int .u8 c] w λe w'=>e=rW (.bool (d9 c))/\w'=w:=by
 go_in;go_wp2
 all_goals go_ret
 all_goals (refine⟨aj ?_,rfl⟩;apply Bool.eq_iff_iff.2;simp[d9] <;> omega)
def uV(c:Int)(w:AT):Calls prog 213 #[.int .u8 c] w λe w'=>e=rW (.bool (digitB c))/\w'=w:=by
 go_in;go_wp2
 all_goals go_ret
 all_goals (refine⟨aj ?_,rfl⟩;apply Bool.eq_iff_iff.2;simp[digitB] <;> omega)
def nu(c:Int)(w:AT):Calls prog 212 #[.int .u8 c] w λe w'=>e=rW (.bool (gL c))/\w'=w:=by
 cases h:d9 c
 all_goals
  go_in;go_wp2_with(first|(go_at_call 210;refine(j_ _ _).mono ?_;rintro e w' ⟨rfl,rfl⟩;rw[h])|(go_at_call 213;refine(uV _ _).mono ?_;rintro e w' ⟨rfl,rfl⟩))
  all_goals go_ret
  all_goals (refine⟨aj ?_,rfl⟩;simp[gL,h])
def tW(s:GA)(w:AT):Calls prog 124 #[sV s] w λe w'=>e=rW (.bool (jS s)) ∧ w'=w:= by
  go_in;go_wp2
  all_goals go_ret
  all_goals (refine⟨aj ?_, rfl⟩; simp[jS, *])
def yj(s:GA)(w:AT):Calls prog 199 #[sV s] w λe w'=>e=rW (.bool (jS s)) ∧ w'=w:= by
  go_in;go_wp2
  all_goals go_ret
  all_goals (refine⟨aj ?_, rfl⟩; first|(simp[jS, *]; done)|(exfalso; simp_all))
section
variable{s:GA}
def gu(s:GA)(k:Nat)(h:k<s.size):(s[k].toNat:Int)=dz s k:=by
 have I:k<s.data.toList.length:=Fc h
 simp only[dz,List.getD,GH I,Option.getD_some];rfl
def ny(s:GA):aY s=true↔lu s:=by simp[aY]
def fo(h:¬lu s):aY s=false:=by simp[aY,h]
def rX(h:lu s):aY s=true:=by simp[aY,h]
theorem yk(s:GA)(w:AT)(Y:1<=s.size)(h2:s.size<=20)(h3:d9 (dz s 0)=true)(h4:jS s=false):
  Calls prog 87 #[sV s] w λe w'=>e=rW (.bool (aY s))/\w'=w:=by
 have U:0<s.size:=o_;go_in;go_wp2_with(first
  | (go_at_call 123;refine(iQ _ _).mono ?_;rintro e w' ⟨rfl,rfl⟩;rw[gu _ _ U,h3])
  | (go_at_call 124;refine(tW _ _).mono ?_;rintro e w' ⟨rfl,rfl⟩;rw[h4]))
 go_loop [3] (λi=>∃k:Nat,k<=s.size/\i=V k/\oH s k) (λi=>s.size-(RowKit.intOf i).toNat)
 case atStart=>exact⟨0,y_,rfl,λj hj=>absurd hj (Nat.not_lt_zero _)⟩
 case round=>
  obtain⟨k,Z,rfl,J⟩:=hrel;have I:=ah J;by_cases hlt:k<s.size
  ·cases hc:gL (dz s k)
   ·go_wp2_with(go_at_call 125;refine(nr _ _).mono ?_;rintro e w' ⟨rfl,rfl⟩;rw[gu _ _ hlt,hc])
    go_ret;exact⟨aj (fo λh=>by have:=h.2.2.2.1 k hlt;rw[hc]at this;cases this).symm,rfl⟩
   ·go_wp2_with(go_at_call 125;refine(nr _ _).mono ?_;rintro e w' ⟨rfl,rfl⟩;rw[gu _ _ hlt,hc])
    go_round
    case rel=>exact⟨k+1,o_,by go_num,λj hj=>by by_cases e:j=k;(subst e;exact hc);exact I j o_⟩
    case measure=>exact FW
  ·go_wp2;go_ret;exact⟨aj (rX ⟨Y,h2,h3,λj hj=>I j o_,h4⟩).symm,rfl⟩
theorem Ba(s:GA)(w:AT)(h:¬(1<=s.size/\s.size<=20/\d9 (dz s 0)=true/\jS s=false)):
  Calls prog 87 #[sV s] w λe w'=>e=rW (.bool (aY s))/\w'=w:=by
 have J:aY s=false:=fo λhp=>h ⟨hp.1,hp.2.1,hp.2.2.1,hp.2.2.2.2⟩;rw[J];have H:=ah h;by_cases h1:1<=s.size
 ·by_cases h2:s.size<=20
  ·have I:0<s.size:=o_
   cases h3:d9 (dz s 0)
   ·go_in;go_wp2_with(first
     | (go_at_call 123;refine(iQ _ _).mono ?_;rintro e w' ⟨rfl,rfl⟩;rw[gu _ _ I,h3]))
    go_ret;exact⟨rfl,rfl⟩
   ·have h4:jS s=true:=by
     cases e:jS s
     ·exact absurd ⟨h1,h2,h3,e⟩ H
     ·rfl
    go_in;go_wp2_with(first
     | (go_at_call 123;refine(iQ _ _).mono ?_;rintro e w' ⟨rfl,rfl⟩;rw[gu _ _ I,h3])
     | (go_at_call 124;refine(tW _ _).mono ?_;rintro e w' ⟨rfl,rfl⟩;rw[h4]))
    go_ret;exact⟨rfl,rfl⟩
  ·go_in;go_wp2;go_ret;exact⟨rfl,rfl⟩
 ·go_in;go_wp2;go_ret;exact⟨rfl,rfl⟩
def cj(s:GA)(w:AT):Calls prog 87 #[sV s] w λe w'=>e=rW (.bool (aY s))/\w'=w:=by
 by_cases h:1<=s.size/\s.size<=20/\d9 (dz s 0)=true/\jS s=false
 ·exact yk s w h.1 h.2.1 h.2.2.1 h.2.2.2
 ·exact Ba s w h
end
end Go.Proofs.YtffnkkpmlplfeaaGreatDoor
