import Derived.Test.YtlamjfhhefcohaaGreatDoorRows
import Derived.BigQuiet
import Derived.Test.YtlamjfhhefcohaaGreatDoorP02
namespace Go.Proofs.YtlamjfhhefcohaaGreatDoor
open Go.Proofs.Tryz
open Go.RowKit
set_option linter.all false
set_option maxRecDepth 100000
set_option maxHeartbeats 16000000
theorem aj{a b:Bool}(h:a=b):Ending.returned (.bool a)=.returned (.bool b):=by rw[h]
theorem cP(c:Int)(w:World):Calls prog 45 #[.int .u8 c] w fun e w'=>e=.returned (.bool (smallB c))/\w'=w:=by
 go_enter func45,ntmps45;go_wp2
 all_goals go_ret
 all_goals (refine⟨aj ?_,rfl⟩;apply Bool.eq_iff_iff.2;simp[smallB] <;> omega)
theorem iG(c:Int)(w:World):Calls prog 46 #[.int .u8 c] w fun e w'=>e=.returned (.bool (de c))/\w'=w:=by
 cases h:smallB c
 all_goals
  go_enter func46,ntmps46;go_wp2_with(go_at_call 45;refine(cP _ _).mono ?_;rintro e w' ⟨rfl,rfl⟩;rw[h])
  all_goals go_ret
  all_goals (refine⟨aj ?_,rfl⟩;apply Bool.eq_iff_iff.2;simp[de,digitB,h] <;> omega)
theorem cQ(c:Int)(w:World):Calls prog 86 #[.int .u8 c] w fun e w'=>e=.returned (.bool (smallB c))/\w'=w:=by
 go_enter func86,ntmps86;go_wp2
 all_goals go_ret
 all_goals (refine⟨aj ?_,rfl⟩;apply Bool.eq_iff_iff.2;simp[smallB] <;> omega)
theorem gu(c:Int)(w:World):Calls prog 89 #[.int .u8 c] w fun e w'=>e=.returned (.bool (digitB c))/\w'=w:=by
 go_enter func89,ntmps89;go_wp2
 all_goals go_ret
 all_goals (refine⟨aj ?_,rfl⟩;apply Bool.eq_iff_iff.2;simp[digitB] <;> omega)
theorem iH(c:Int)(w:World):Calls prog 123 #[.int .u8 c] w fun e w'=>e=.returned (.bool (de c))/\w'=w:=by
 cases h:smallB c
 all_goals
  go_enter func123,ntmps123;go_wp2_with(first|(go_at_call 86;refine(cQ _ _).mono ?_;rintro e w' ⟨rfl,rfl⟩;rw[h])|(go_at_call 89;refine(gu _ _).mono ?_;rintro e w' ⟨rfl,rfl⟩))
  all_goals go_ret
  all_goals (refine⟨aj ?_,rfl⟩;simp[de,h])
theorem ky(s:ByteArray)(w:World):Calls prog 73 #[.string s] w fun e w'=>e=.returned (.bool (dZ s)) ∧ w'=w:= by
  go_enter func73, ntmps73;go_wp2
  all_goals go_ret
  all_goals (refine⟨aj ?_, rfl⟩; simp[dZ, *])
theorem kW(s:ByteArray)(w:World):Calls prog 110 #[.string s] w fun e w'=>e=.returned (.bool (dZ s)) ∧ w'=w:= by
  go_enter func110, ntmps110;go_wp2
  all_goals go_ret
  all_goals (refine⟨aj ?_, rfl⟩; first|(simp[dZ, *]; done)|(exfalso; simp_all))
section
variable{s:ByteArray}
theorem gw(s:ByteArray)(k:Nat)(h:k<s.size):(s[k].toNat:Int)=di s k:=by
 have h':k<s.data.toList.length:=by simpa using h
 simp only[di,List.getD,List.getElem?_eq_getElem h',Option.getD_some];rfl
theorem mm(s:ByteArray):aK s=true↔jm s:=by simp[aK]
theorem eS(h:¬jm s):aK s=false:=by simp[aK,h]
theorem qq(h:jm s):aK s=true:=by simp[aK,h]
theorem vK(s:ByteArray)(w:World)(h1:1<=s.size)(h2:s.size<=20)(h3:smallB (di s 0)=true)(h4:dZ s=false):
  Calls prog 37 #[.string s] w fun e w'=>e=.returned (.bool (aK s))/\w'=w:=by
 have hb:0<s.size:=o_;go_enter func37,ntmps37;go_wp2_with(first
  | (go_at_call 45;refine(cP _ _).mono ?_;rintro e w' ⟨rfl,rfl⟩;rw[gw _ _ hb,h3])
  | (go_at_call 73;refine(ky _ _).mono ?_;rintro e w' ⟨rfl,rfl⟩;rw[h4]))
 go_loop [3] (fun i=>∃k:Nat,k<=s.size/\i=.int .i64 k/\mW s k) (fun i=>s.size-(RowKit.intOf i).toNat)
 case atStart=>exact⟨0,y_,rfl,fun j hj=>absurd hj (Nat.not_lt_zero _)⟩
 case round=>
  obtain⟨k,hk,rfl,hl⟩:=hrel;have HL:=ah hl;by_cases hlt:k<s.size
  ·cases hc:de (di s k)
   ·go_wp2_with(go_at_call 46;refine(iG _ _).mono ?_;rintro e w' ⟨rfl,rfl⟩;rw[gw _ _ hlt,hc])
    go_ret;exact⟨aj (eS fun h=>by have:=h.2.2.2.1 k hlt;rw[hc]at this;cases this).symm,rfl⟩
   ·go_wp2_with(go_at_call 46;refine(iG _ _).mono ?_;rintro e w' ⟨rfl,rfl⟩;rw[gw _ _ hlt,hc])
    go_round
    case rel=>exact⟨k+1,o_,by go_num,fun j hj=>by by_cases e:j=k;(subst e;exact hc);exact HL.out j o_⟩
    case measure=>simp[RowKit.intOf];omega
  ·go_wp2;go_ret;exact⟨aj (qq ⟨h1,h2,h3,fun j hj=>HL.out j o_,h4⟩).symm,rfl⟩
theorem zp(s:ByteArray)(w:World)(h:¬(1<=s.size/\s.size<=20/\smallB (di s 0)=true/\dZ s=false)):
  Calls prog 37 #[.string s] w fun e w'=>e=.returned (.bool (aK s))/\w'=w:=by
 have hn:aK s=false:=eS fun hp=>h ⟨hp.1,hp.2.1,hp.2.2.1,hp.2.2.2.2⟩;rw[hn];have H:=ah h;by_cases h1:1<=s.size
 ·by_cases h2:s.size<=20
  ·have hb:0<s.size:=o_
   cases h3:smallB (di s 0)
   ·go_enter func37,ntmps37;go_wp2_with(first
     | (go_at_call 45;refine(cP _ _).mono ?_;rintro e w' ⟨rfl,rfl⟩;rw[gw _ _ hb,h3]))
    go_ret;exact⟨rfl,rfl⟩
   ·have h4:dZ s=true:=by
     cases e:dZ s
     ·exact absurd ⟨h1,h2,h3,e⟩ H
     ·rfl
    go_enter func37,ntmps37;go_wp2_with(first
     | (go_at_call 45;refine(cP _ _).mono ?_;rintro e w' ⟨rfl,rfl⟩;rw[gw _ _ hb,h3])
     | (go_at_call 73;refine(ky _ _).mono ?_;rintro e w' ⟨rfl,rfl⟩;rw[h4]))
    go_ret;exact⟨rfl,rfl⟩
  ·go_enter func37,ntmps37;go_wp2;go_ret;exact⟨rfl,rfl⟩
 ·go_enter func37,ntmps37;go_wp2;go_ret;exact⟨rfl,rfl⟩
theorem aH(s:ByteArray)(w:World):Calls prog 37 #[.string s] w fun e w'=>e=.returned (.bool (aK s))/\w'=w:=by
 by_cases h:1<=s.size/\s.size<=20/\smallB (di s 0)=true/\dZ s=false
 ·exact vK s w h.1 h.2.1 h.2.2.1 h.2.2.2
 ·exact zp s w h
end
end Go.Proofs.YtlamjfhhefcohaaGreatDoor
