import Derived.Test.YtjfmapphpijneaaGreatDoorRows
import Derived.Test.YtjfmapphpijneaaGreatDoorS01
import Derived.WalkSpells
import Derived.ProofKit
import Derived.BigQuiet
namespace Go.Proofs.YtjfmapphpijneaaGreatDoor
open List
open Go.Proofs.Tryz Go.RowKit
set_option linter.all false
set_option maxRecDepth 100000
set_option maxHeartbeats 0
variable[Inhabited Pick]
def ak{a b:Bool}(h:a=b):Ending.returned (.bool a)=rW (.bool b):=by rw[h]
def jV(c:Int)(w:AT):Calls prog 70 #[.int .u8 c] w λe w'=>e=rW (.bool (fj c))/\w'=w:=by
 go_in;go_wp2
 all_goals go_ret
 all_goals (refine⟨ak ?_,rfl⟩;apply Bool.eq_iff_iff.2;simp[fj] <;> omega)
def qP(c:Int)(w:AT):Calls prog 72 #[.int .u8 c] w λe w'=>e=rW (.bool (iW c))/\w'=w:=by
 cases h:fj c
 all_goals
  go_in;go_wp2_with(go_at_call 70;refine(jV _ _).mono ?_;rintro e w' ⟨rfl,rfl⟩;rw[h])
  all_goals go_ret
  all_goals (refine⟨ak ?_,rfl⟩;apply Bool.eq_iff_iff.2;simp[iW,digitB,h] <;> omega)
def lN(c:Int)(w:AT):Calls prog 146 #[.int .u8 c] w λe w'=>e=rW (.bool (fj c))/\w'=w:=by
 go_in;go_wp2
 all_goals go_ret
 all_goals (refine⟨ak ?_,rfl⟩;apply Bool.eq_iff_iff.2;simp[fj] <;> omega)
def zT(c:Int)(w:AT):Calls prog 149 #[.int .u8 c] w λe w'=>e=rW (.bool (digitB c))/\w'=w:=by
 go_in;go_wp2
 all_goals go_ret
 all_goals (refine⟨ak ?_,rfl⟩;apply Bool.eq_iff_iff.2;simp[digitB] <;> omega)
def qQ(c:Int)(w:AT):Calls prog 148 #[.int .u8 c] w λe w'=>e=rW (.bool (iW c))/\w'=w:=by
 cases h:fj c
 all_goals
  go_in;go_wp2_with(first|(go_at_call 146;refine(lN _ _).mono ?_;rintro e w' ⟨rfl,rfl⟩;rw[h])|(go_at_call 149;refine(zT _ _).mono ?_;rintro e w' ⟨rfl,rfl⟩))
  all_goals go_ret
  all_goals (refine⟨ak ?_,rfl⟩;simp[iW,h])
def yE(s:Io)(w:AT):Calls prog 71 #[sV s] w λe w'=>e=rW (.bool (lE s)) ∧ w'=w:= by
  go_in;go_wp2
  all_goals go_ret
  all_goals (refine⟨ak ?_, rfl⟩; simp[lE, *])
def Cb(s:Io)(w:AT):Calls prog 134 #[sV s] w λe w'=>e=rW (.bool (lE s)) ∧ w'=w:= by
  go_in;go_wp2
  all_goals go_ret
  all_goals (refine⟨ak ?_, rfl⟩; first|(simp[lE, *]; done)|(exfalso; simp_all))
section
variable{s:Io}
def iI(s:Io)(k:Nat)(h:k<s.size):(s[k].toNat:Int)=d8 s k:=by have I:k<s.data.toList.length:=IN h;simp only[d8,List.getD,J4 I,Option.getD_some];rfl
def qR(s:Io):bh s=true↔oq s:=by simp[bh]
def gx(h:¬oq s):bh s=false:=by simp[bh,h]
def wO(h:oq s):bh s=true:=by simp[bh,h]
theorem Cc(s:Io)(w:AT)(Z:1<=s.size)(h2:s.size<=20)(h3:fj (d8 s 0)=true)(h4:lE s=false):
  Calls prog 44 #[sV s] w λe w'=>e=rW (.bool (bh s))/\w'=w:=by
 have U:0<s.size:=o_;go_in;go_wp2_with(first
  | (go_at_call 70;refine(jV _ _).mono ?_;rintro e w' ⟨rfl,rfl⟩;rw[iI _ _ U,h3])
  | (go_at_call 71;refine(yE _ _).mono ?_;rintro e w' ⟨rfl,rfl⟩;rw[h4]))
 go_loop [3] (λi=>∃k:Nat,k<=s.size/\i=V k/\rQ s k) (λi=>s.size-(RowKit.intOf i).toNat)
 case atStart=>exact⟨0,y_,rfl,λj hj=>absurd hj (Nat.not_lt_zero _)⟩
 case round=>
  obtain⟨k,hk,rfl,J⟩:=hrel;have I:=ah J;by_cases hlt:k<s.size
  ·cases hc:iW (d8 s k)
   ·go_wp2_with(go_at_call 72;refine(qP _ _).mono ?_;rintro e w' ⟨rfl,rfl⟩;rw[iI _ _ hlt,hc])
    go_ret;exact⟨ak (gx λh=>by have:=h.2.2.2.1 k hlt;rw[hc]at this;cases this).symm,rfl⟩
   go_wp2_with(go_at_call 72;refine(qP _ _).mono ?_;rintro e w' ⟨rfl,rfl⟩;rw[iI _ _ hlt,hc])
   go_round
   case rel=>exact⟨k+1,o_,by go_num,λj hj=>by by_cases e:j=k;(subst e;exact hc);exact I j o_⟩
   case measure=>exact IF
  go_wp2;go_ret;exact⟨ak (wO ⟨Z,h2,h3,λj hj=>I j o_,h4⟩).symm,rfl⟩
theorem EK(s:Io)(w:AT)(h:¬(1<=s.size/\s.size<=20/\fj (d8 s 0)=true/\lE s=false)):
  Calls prog 44 #[sV s] w λe w'=>e=rW (.bool (bh s))/\w'=w:=by
 have J:bh s=false:=gx λhp=>h ⟨hp.1,hp.2.1,hp.2.2.1,hp.2.2.2.2⟩;rw[J];have H:=ah h;by_cases h1:1<=s.size
 ·by_cases h2:s.size<=20
  ·have I:0<s.size:=o_
   cases h3:fj (d8 s 0)
   ·go_in;go_wp2_with(first
     | (go_at_call 70;refine(jV _ _).mono ?_;rintro e w' ⟨rfl,rfl⟩;rw[iI _ _ I,h3]))
    go_ret;exact⟨rfl,rfl⟩
   have h4:lE s=true:=by cases e:lE s;exact absurd ⟨h1,h2,h3,e⟩ H;rfl
   go_in;go_wp2_with(first
    | (go_at_call 70;refine(jV _ _).mono ?_;rintro e w' ⟨rfl,rfl⟩;rw[iI _ _ I,h3])
    | (go_at_call 71;refine(yE _ _).mono ?_;rintro e w' ⟨rfl,rfl⟩;rw[h4]))
   go_ret;exact⟨rfl,rfl⟩
  go_in;go_wp2;go_ret;exact⟨rfl,rfl⟩
 go_in;go_wp2;go_ret;exact⟨rfl,rfl⟩
def cK(s:Io)(w:AT):Calls prog 44 #[sV s] w λe w'=>e=rW (.bool (bh s))/\w'=w:=by by_cases h:1<=s.size/\s.size<=20/\fj (d8 s 0)=true/\lE s=false;exact Cc s w h.1 h.2.1 h.2.2.1 h.2.2.2;exact EK s w h
end
end Go.Proofs.YtjfmapphpijneaaGreatDoor
