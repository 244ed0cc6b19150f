import Derived.Test.YtffnkkpmlplfeaaGreatDoorRows
import Derived.Test.YtffnkkpmlplfeaaGreatDoorN01
import Derived.WalkSpells
import Derived.ProofKit
namespace Go.Proofs.YtffnkkpmlplfeaaGreatDoor
open Go.Proofs.Tryz
set_option linter.all false
set_option maxRecDepth 100000
set_option maxHeartbeats 16000000
variable[Inhabited Pick]
section
open Go.RowKit
namespace Ap
def Tw (op a b r:Int):Prop:=∀w:World,(Calls prog 206 #[.int .i64 op,.int .i64 a,.int .i64 b] w λe w'=>e=.returned (.int .i64 r)/\w'=w)/\Calls prog 167 #[.int .i64 op,.int .i64 a,.int .i64 b] w λe w'=>e=.returned (.int .i64 r)/\w'=w
theorem tw_plain (a b:Int):Tw 0 a b (wrap32 (wrap32 a*wrap32 b))/\Tw 3 a b (wrap32 (wrap32 a+wrap32 b))/\Tw 4 a b (wrap32 (wrap32 a-wrap32 b))/\Tw 5 a b (wrap32 (wrap32 a*2 ^ (wrap32 b % 32).toNat))/\Tw 6 a b (wrap32 a / 2 ^ (wrap32 b % 32).toNat)/\Tw 13 a b (bits .and .i32 (wrap32 a) (wrap32 b))/\Tw 14 a b (bits .xor .i32 (wrap32 a) (wrap32 b))/\Tw 15 a b (bits .or .i32 (wrap32 a) (wrap32 b)):=by
 have ha:=w32_bd a;have hb:=w32_bd b;have ht:=tmod32_bd (wrap32 b);have hm:=mul_bd (wrap32 a) (wrap32 b) ha hb;have hb1:=bits_bd .and (wrap32 a) (wrap32 b);have hb2:=bits_bd .xor (wrap32 a) (wrap32 b);have hb3:=bits_bd .or (wrap32 a) (wrap32 b);refine⟨?_,?_,?_,?_,?_,?_,?_,?_⟩;all_goals (intro w;constructor;go_enter func206,ntmps206;rotate_left;go_enter func167,ntmps167)
 all_goals go_wp2
 all_goals go_ret
 all_goals refine⟨ret_intA ?_,rfl⟩
 all_goals first|rfl|exact w64_32 _|(rw[tm32,w64_32,w32_64])|(rw[tm32])|exact w64_div _ _ ha|exact bits_and _ _ ha hb|exact bits_or _ _ ha hb|exact bits_xor _ _ ha hb
theorem tw_cmp (a b:Int):Tw 7 a b (if wrap32 a<wrap32 b then 1 else 0)/\Tw 8 a b (if wrap32 a<=wrap32 b then 1 else 0)/\Tw 9 a b (if wrap32 b<wrap32 a then 1 else 0)/\Tw 10 a b (if wrap32 b<=wrap32 a then 1 else 0)/\Tw 11 a b (if wrap32 a=wrap32 b then 1 else 0)/\Tw 12 a b (if wrap32 a≠wrap32 b then 1 else 0):=by
 have ha:=w32_bd a;have hb:=w32_bd b;have ht:=tmod32_bd (wrap32 b);refine⟨?_,?_,?_,?_,?_,?_⟩;all_goals split
 all_goals rename_i h
 all_goals first|(have hq:(wrap32 a == wrap32 b)=true:=by simpa using h;have hp:(wrap32 a != wrap32 b)=false:=by simpa using h;clear h)|(have hq:(wrap32 a == wrap32 b)=false:=by simpa using h;have hp:(wrap32 a != wrap32 b)=true:=by simpa using h;clear h)|skip
 all_goals (intro w;constructor;go_enter func206,ntmps206;rotate_left;go_enter func167,ntmps167)
 all_goals go_wp2
 all_goals go_ret
 all_goals refine⟨ret_intA ?_,rfl⟩
 all_goals first|rfl|exact w64_32 _|(rw[tm32,w64_32,w32_64])|(rw[tm32])|exact w64_div _ _ ha|exact bits_and _ _ ha hb|exact bits_or _ _ ha hb|exact bits_xor _ _ ha hb
theorem tw_div (a b:Int):Tw 1 a b (if wrap32 b=0 then -1 else wrap32 ((wrap32 a).tdiv (wrap32 b)))/\Tw 2 a b (if wrap32 b=0 then wrap32 a else (wrap32 a).tmod (wrap32 b)):=by
 have ha:=w32_bd a;have hb:=w32_bd b;have ht:=tmod32_bd (wrap32 b);have hd:=tdiv_bd (wrap32 a) (wrap32 b) ha;have hd2:=tmod_bd (wrap32 a) (wrap32 b) ha;refine⟨?_,?_⟩;all_goals split
 all_goals rename_i h
 all_goals first|(have h1:(wrap32 b == 0)=true:=by simp[h];have H:Hid (wrap32 b=0):=h;clear h hd2 hd)|(have h1:(wrap32 b == 0)=false:=by simp[h];clear hd2)|skip
 all_goals (intro w;constructor;go_enter func206,ntmps206;rotate_left;go_enter func167,ntmps167)
 all_goals go_wp2
 all_goals go_ret
 all_goals refine⟨ret_intA ?_,rfl⟩
 all_goals first|rfl|exact w64_32 _|(rw[tm32,w64_32,w32_64])|(rw[tm32])|exact w64_div _ _ ha|exact bits_and _ _ ha hb|exact bits_or _ _ ha hb|exact bits_xor _ _ ha hb
theorem tw_no (op a b:Int) (h:op<0∨15<op):Tw op a b 0:=by
 have ha:=w32_bd a;have hb:=w32_bd b;have ht:=tmod32_bd (wrap32 b);intro w;rcases h with h|h;all_goals (constructor;go_enter func206,ntmps206;rotate_left;go_enter func167,ntmps167)
 all_goals go_wp2
 all_goals go_ret
 all_goals exact⟨rfl,rfl⟩
end Ap
end
section
open Go.RowKit
theorem ret_str {a b:ByteArray} (h:a=b):Ending.returned (.string a)=.returned (.string b):=by rw[h]
def dig (m:Nat):UInt8:=UInt8.ofNat (48+m % 10)
theorem dig_toNat (m:Nat):(dig m).toNat=48+m % 10:=by
 unfold dig;simp only[UInt8.toNat_ofNat'];omega
def tx (l:List UInt8):ByteArray:=⟨l.toArray⟩
end
section
open Go.RowKit Ap
def apN (op a b:Int):Int:=
 if op=0 then (wrap32 (wrap32 a*wrap32 b))
 else if op=1 then (if wrap32 b=0 then (-1) else (wrap32 ((wrap32 a).tdiv (wrap32 b))))
 else if op=2 then (if wrap32 b=0 then (wrap32 a) else ((wrap32 a).tmod (wrap32 b)))
 else if op=3 then (wrap32 (wrap32 a+wrap32 b))
 else if op=4 then (wrap32 (wrap32 a-wrap32 b))
 else if op=5 then (wrap32 (wrap32 a*2 ^ (wrap32 b % 32).toNat))
 else if op=6 then (wrap32 a / 2 ^ (wrap32 b % 32).toNat)
 else if op=7 then (if wrap32 a<wrap32 b then (1) else (0))
 else if op=8 then (if wrap32 a<=wrap32 b then (1) else (0))
 else if op=9 then (if wrap32 b<wrap32 a then (1) else (0))
 else if op=10 then (if wrap32 b<=wrap32 a then (1) else (0))
 else if op=11 then (if wrap32 a=wrap32 b then (1) else (0))
 else if op=12 then (if wrap32 a≠wrap32 b then (1) else (0))
 else if op=13 then (bits .and .i32 (wrap32 a) (wrap32 b))
 else if op=14 then (bits .xor .i32 (wrap32 a) (wrap32 b))
 else if op=15 then (bits .or .i32 (wrap32 a) (wrap32 b))
 else 0
theorem ap_two (op a b:Int):Tw op a b (apN op a b):=by
 by_cases h:op<0∨15<op
 ·have e:apN op a b=0:=by
   unfold apN;iterate 16 rw[if_neg o_]
  rw[e];exact tw_no op a b h
 ·have hop:op=0∨op=1∨op=2∨op=3∨op=4∨op=5∨op=6∨op=7∨op=8∨op=9∨op=10∨op=11∨op=12∨op=13∨op=14∨op=15:=by omega
  obtain⟨p0,p3,p4,p5,p6,p13,p14,p15⟩:=tw_plain a b;obtain⟨c7,c8,c9,c10,c11,c12⟩:=tw_cmp a b;obtain⟨d1,d2⟩:=tw_div a b;rcases hop with rfl|rfl|rfl|rfl|rfl|rfl|rfl|rfl|rfl|rfl|rfl|rfl|rfl|rfl|rfl|rfl;all_goals assumption
theorem ap_i (op a b:Int) (w:World):Calls prog 206 #[.int .i64 op,.int .i64 a,.int .i64 b] w λe w'=>e=.returned (.int .i64 (apN op a b))/\w'=w:=(ap_two op a b w).1
theorem ap_s (op a b:Int) (w:World):Calls prog 167 #[.int .i64 op,.int .i64 a,.int .i64 b] w λe w'=>e=.returned (.int .i64 (apN op a b))/\w'=w:=(ap_two op a b w).2
def inB (z:Int):Prop := -2147483648<=z/\z<=2147483647
theorem div_bd (x:Int) (n:Nat) (hx : -2147483648<=x/\x<=2147483647) : -2147483648<=x / 2 ^ n/\x / 2 ^ n<=2147483647:=by
 have hp:(0:Int)<2 ^ n:=Int.pow_pos (by decide);have h1:(1:Int)<=2 ^ n:=by omega
 constructor
 ·rw[Int.le_ediv_iff_mul_le hp];have:(-2147483648:Int)*2 ^ n <= -2147483648*1:=Int.mul_le_mul_of_nonpos_left (by decide) h1
  omega
 ·have h2:x / 2 ^ n<=x∨x / 2 ^ n<0:=by
   by_cases hx0:0<=x
   ·exact .inl (Int.ediv_le_self _ hx0)
   ·exact .inr (Int.ediv_neg_of_neg_of_pos o_ hp)
  omega
theorem ap_bd (op a b:Int):inB (apN op a b):=by
 have ha:=w32_bd a;have hb:=w32_bd b;by_cases h:op<0∨15<op
 ·have e:apN op a b=0:=by unfold apN;rw[if_neg o_];rw[if_neg o_];rw[if_neg o_];rw[if_neg o_];rw[if_neg o_];rw[if_neg o_];rw[if_neg o_];rw[if_neg o_];rw[if_neg o_];rw[if_neg o_];rw[if_neg o_];rw[if_neg o_];rw[if_neg o_];rw[if_neg o_];rw[if_neg o_];rw[if_neg o_]
  rw[e];exact⟨by decide,by decide⟩
 ·have hop:op=0∨op=1∨op=2∨op=3∨op=4∨op=5∨op=6∨op=7∨op=8∨op=9∨op=10∨op=11∨op=12∨op=13∨op=14∨op=15:=by omega
  rcases hop with rfl|rfl|rfl|rfl|rfl|rfl|rfl|rfl|rfl|rfl|rfl|rfl|rfl|rfl|rfl|rfl
  ·rw[show apN 0 a b=(wrap32 (wrap32 a*wrap32 b)) by simp[apN]];exact w32_bd _
  ·by_cases h:wrap32 b=0
   ·rw[show apN 1 a b=(-1) by simp[apN,h]];exact⟨by decide,by decide⟩
   ·rw[show apN 1 a b=(wrap32 ((wrap32 a).tdiv (wrap32 b))) by simp[apN,h]];exact w32_bd _
  ·by_cases h:wrap32 b=0
   ·rw[show apN 2 a b=(wrap32 a) by simp[apN,h]];exact w32_bd _
   ·rw[show apN 2 a b=((wrap32 a).tmod (wrap32 b)) by simp[apN,h]];exact tmod_bd _ _ ha
  ·rw[show apN 3 a b=(wrap32 (wrap32 a+wrap32 b)) by simp[apN]];exact w32_bd _
  ·rw[show apN 4 a b=(wrap32 (wrap32 a-wrap32 b)) by simp[apN]];exact w32_bd _
  ·rw[show apN 5 a b=(wrap32 (wrap32 a*2 ^ (wrap32 b % 32).toNat)) by simp[apN]];exact w32_bd _
  ·rw[show apN 6 a b=(wrap32 a / 2 ^ (wrap32 b % 32).toNat) by simp[apN]];exact div_bd _ _ ha
  ·by_cases h:wrap32 a<wrap32 b
   ·rw[show apN 7 a b=(1) by simp[apN,h]];exact⟨by decide,by decide⟩
   ·rw[show apN 7 a b=(0) by simp[apN,h]];exact⟨by decide,by decide⟩
  ·by_cases h:wrap32 a<=wrap32 b
   ·rw[show apN 8 a b=(1) by simp[apN,h]];exact⟨by decide,by decide⟩
   ·rw[show apN 8 a b=(0) by simp[apN,h]];exact⟨by decide,by decide⟩
  ·by_cases h:wrap32 b<wrap32 a
   ·rw[show apN 9 a b=(1) by simp[apN,h]];exact⟨by decide,by decide⟩
   ·rw[show apN 9 a b=(0) by simp[apN,h]];exact⟨by decide,by decide⟩
  ·by_cases h:wrap32 b<=wrap32 a
   ·rw[show apN 10 a b=(1) by simp[apN,h]];exact⟨by decide,by decide⟩
   ·rw[show apN 10 a b=(0) by simp[apN,h]];exact⟨by decide,by decide⟩
  ·by_cases h:wrap32 a=wrap32 b
   ·rw[show apN 11 a b=(1) by simp[apN,h]];exact⟨by decide,by decide⟩
   ·rw[show apN 11 a b=(0) by simp[apN,h]];exact⟨by decide,by decide⟩
  ·by_cases h:wrap32 a≠wrap32 b
   ·rw[show apN 12 a b=(1) by simp[apN,h]];exact⟨by decide,by decide⟩
   ·rw[show apN 12 a b=(0) by simp[apN,h]];exact⟨by decide,by decide⟩
  ·rw[show apN 13 a b=(bits .and .i32 (wrap32 a) (wrap32 b)) by simp[apN]];exact bits_bd _ _ _
  ·rw[show apN 14 a b=(bits .xor .i32 (wrap32 a) (wrap32 b)) by simp[apN]];exact bits_bd _ _ _
  ·rw[show apN 15 a b=(bits .or .i32 (wrap32 a) (wrap32 b)) by simp[apN]];exact bits_bd _ _ _
end
end Go.Proofs.YtffnkkpmlplfeaaGreatDoor
