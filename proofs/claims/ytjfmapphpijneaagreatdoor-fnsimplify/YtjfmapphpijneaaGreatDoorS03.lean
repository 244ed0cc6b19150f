import Derived.Test.YtjfmapphpijneaaGreatDoorRows
import Derived.Test.YtjfmapphpijneaaGreatDoorS01
import Derived.WalkSpells
import Derived.ProofKit
namespace Go.Proofs.YtjfmapphpijneaaGreatDoor
open Go.Proofs.Tryz
set_option linter.all false
set_option maxRecDepth 100000
set_option maxHeartbeats 0
variable[Inhabited Pick]
section
open Go.RowKit
namespace Ap
def Tw(op a b r:Int):Prop:=∀w:AT,Calls prog 138 #[V op,V a,V b] w λe w'=>e=rW (V r)/\w'=w
def BZ(a b:Int):Tw 0 a b (wrap32 (wrap32 a*wrap32 b))/\Tw 3 a b (wrap32 (wrap32 a+wrap32 b))/\Tw 4 a b (wrap32 (wrap32 a-wrap32 b))/\Tw 5 a b (wrap32 (wrap32 a*2 ^ (wrap32 b%32).toNat))/\Tw 6 a b (wrap32 a / 2 ^ (wrap32 b%32).toNat)/\Tw 13 a b (bits .and .i32 (wrap32 a) (wrap32 b))/\Tw 14 a b (bits .xor .i32 (wrap32 a) (wrap32 b))/\Tw 15 a b (bits .or .i32 (wrap32 a) (wrap32 b)):=by
 have I:=w32_bd a;have J:=w32_bd b;have Z:=jQ (wrap32 b);have U:=GA (wrap32 a) (wrap32 b) I J;have Ja:=jP .and (wrap32 a) (wrap32 b);have Jc:=jP .xor (wrap32 a) (wrap32 b);have Jb:=jP .or (wrap32 a) (wrap32 b);refine⟨?_,?_,?_,?_,?_,?_,?_,?_⟩;all_goals (intro w;go_in)
 all_goals go_wp2
 all_goals go_ret
 all_goals refine⟨ret_intA ?_,rfl⟩
 all_goals first|rfl|exact w64_32 _|(rw[tm32,w64_32,w32_64])|(rw[tm32])|exact rR _ _ I|exact bits_and _ _ I J|exact bits_or _ _ I J|exact bits_xor _ _ I J
def GC(a b:Int):Tw 7 a b (if wrap32 a<wrap32 b then 1 else 0)/\Tw 8 a b (if wrap32 a<=wrap32 b then 1 else 0)/\Tw 9 a b (if wrap32 b<wrap32 a then 1 else 0)/\Tw 10 a b (if wrap32 b<=wrap32 a then 1 else 0)/\Tw 11 a b (if wrap32 a=wrap32 b then 1 else 0)/\Tw 12 a b (if wrap32 a≠wrap32 b then 1 else 0):=by
 have I:=w32_bd a;have J:=w32_bd b;have ht:=jQ (wrap32 b);refine⟨?_,?_,?_,?_,?_,?_⟩;all_goals split
 all_goals rename_i h
 all_goals first|(have Z:(wrap32 a == wrap32 b)=true:=IN h;have U:(wrap32 a != wrap32 b)=false:=IN h;clear h)|(have Z:(wrap32 a == wrap32 b)=false:=IN h;have U:(wrap32 a != wrap32 b)=true:=IN h;clear h)|skip
 all_goals (intro w;go_in)
 all_goals go_wp2
 all_goals go_ret
 all_goals refine⟨ret_intA ?_,rfl⟩
 all_goals first|rfl|exact w64_32 _|(rw[tm32,w64_32,w32_64])|(rw[tm32])|exact rR _ _ I|exact bits_and _ _ I J|exact bits_or _ _ I J|exact bits_xor _ _ I J
def GD(a b:Int):Tw 1 a b (if wrap32 b=0 then -1 else wrap32 ((wrap32 a).tdiv (wrap32 b)))/\Tw 2 a b (if wrap32 b=0 then wrap32 a else(wrap32 a).tmod (wrap32 b)):=by
 have I:=w32_bd a;have J:=w32_bd b;have ht:=jQ (wrap32 b);have U:=EB (wrap32 a) (wrap32 b) I;have Ja:=yo (wrap32 a) (wrap32 b) I;refine⟨?_,?_⟩;all_goals split
 all_goals rename_i h
 all_goals first|(have Z:(wrap32 b == 0)=true:=by simp[h];clear h Ja U)|(have Z:(wrap32 b == 0)=false:=by simp[h];clear Ja)|skip
 all_goals (intro w;go_in)
 all_goals go_wp2
 all_goals go_ret
 all_goals refine⟨ret_intA ?_,rfl⟩
 all_goals first|rfl|exact w64_32 _|(rw[tm32,w64_32,w32_64])|(rw[tm32])|exact rR _ _ I|exact bits_and _ _ I J|exact bits_or _ _ I J|exact bits_xor _ _ I J
def IE(I a b:Int)(h:I<0\/15<I):Tw I a b 0:=by
 have Z:=w32_bd a;have U:=w32_bd b;have J:=jQ (wrap32 b);intro w;rcases h with h|h;all_goals go_in
 all_goals go_wp2
 all_goals go_ret
 all_goals exact⟨rfl,rfl⟩
end Ap
end
section
open Go.RowKit
def rX{a b:Io}(h:a=b):Ending.returned (sV a)=rW (sV b):=by rw[h]
def dig(m:Nat):UInt8:=UInt8.ofNat (48+m%10)
def zQ(m:Nat):(dig m).toNat=48+m%10:=by unfold dig;simp only[UInt8.toNat_ofNat'];omega
def tx(l:List UInt8):Io:=⟨l.toArray⟩
def rY(l:List UInt8):(tx l).size=l.length:=by simp[tx,ByteArray.size]
def zR(a b:List UInt8):tx a++tx b=tx (a++b):=by apply ByteArray.ext;simp[tx]
end
section
open Go.RowKit Ap
def cJ(op a b:Int):Int:=
 if op=0 then(wrap32 (wrap32 a*wrap32 b))
 else if op=1 then(if wrap32 b=0 then(-1)else(wrap32 ((wrap32 a).tdiv (wrap32 b))))
 else if op=2 then(if wrap32 b=0 then(wrap32 a)else((wrap32 a).tmod (wrap32 b)))
 else if op=3 then(wrap32 (wrap32 a+wrap32 b))
 else if op=4 then(wrap32 (wrap32 a-wrap32 b))
 else if op=5 then(wrap32 (wrap32 a*2 ^ (wrap32 b%32).toNat))
 else if op=6 then(wrap32 a / 2 ^ (wrap32 b%32).toNat)
 else if op=7 then(if wrap32 a<wrap32 b then(1)else(0))
 else if op=8 then(if wrap32 a<=wrap32 b then(1)else(0))
 else if op=9 then(if wrap32 b<wrap32 a then(1)else(0))
 else if op=10 then(if wrap32 b<=wrap32 a then(1)else(0))
 else if op=11 then(if wrap32 a=wrap32 b then(1)else(0))
 else if op=12 then(if wrap32 a≠wrap32 b then(1)else(0))
 else if op=13 then(bits .and .i32 (wrap32 a) (wrap32 b))
 else if op=14 then(bits .xor .i32 (wrap32 a) (wrap32 b))
 else if op=15 then(bits .or .i32 (wrap32 a) (wrap32 b))
 else 0
def GE(I a b:Int):Tw I a b (cJ I a b):=by
 by_cases h:I<0\/15<I
 ·have e:cJ I a b=0:=by unfold cJ;iterate 16 rw[if_neg o_]
  rw[e];exact IE I a b h
 have Ja:I=0\/I=1\/I=2\/I=3\/I=4\/I=5\/I=6\/I=7\/I=8\/I=9\/I=10\/I=11\/I=12\/I=13\/I=14\/I=15:=o_
 have⟨p0,J,Z,U,p6,Jc,Je,Jd⟩:=BZ a b;have⟨c7,c8,c9,Jg,Jf,Jb⟩:=GC a b;have⟨d1,d2⟩:=GD a b;rcases Ja with rfl|rfl|rfl|rfl|rfl|rfl|rfl|rfl|rfl|rfl|rfl|rfl|rfl|rfl|rfl|rfl;all_goals assumption
def IG(op a b:Int)(w:AT):Calls prog 138 #[V op,V a,V b] w λe w'=>e=rW (V (cJ op a b))/\w'=w:=GE op a b w
def d7(z:Int):Prop:= -2147483648<=z/\z<=2147483647
def GF(x:Int)(n:Nat)(J: -2147483648<=x/\x<=2147483647): -2147483648<=x / 2 ^ n/\x / 2 ^ n<=2147483647:=by
 have h:(0:Int)<2 ^ n:=Int.pow_pos d_;have I:(1:Int)<=2 ^ n:=o_;constructor;rw[Int.le_ediv_iff_mul_le h];have:(-2147483648:Int)*2 ^ n <= -2147483648*1:=Int.mul_le_mul_of_nonpos_left d_ I;omega;have h2:x / 2 ^ n<=x\/x / 2 ^ n<0:=by by_cases hx0:0<=x;exact .inl (Int.ediv_le_self _ hx0);exact .inr (Int.ediv_neg_of_neg_of_pos o_ h)
 omega
def ud(I a b:Int):d7 (cJ I a b):=by
 have J:=w32_bd a;have U:=w32_bd b;by_cases h:I<0\/15<I;have e:cJ I a b=0:=by unfold cJ;rw[if_neg o_];rw[if_neg o_];rw[if_neg o_];rw[if_neg o_];rw[if_neg o_];rw[if_neg o_];rw[if_neg o_];rw[if_neg o_];rw[if_neg o_];rw[if_neg o_];rw[if_neg o_];rw[if_neg o_];rw[if_neg o_];rw[if_neg o_];rw[if_neg o_];rw[if_neg o_]
 rw[e];exact⟨d_,d_⟩;have Ja:I=0\/I=1\/I=2\/I=3\/I=4\/I=5\/I=6\/I=7\/I=8\/I=9\/I=10\/I=11\/I=12\/I=13\/I=14\/I=15:=o_;rcases Ja with rfl|rfl|rfl|rfl|rfl|rfl|rfl|rfl|rfl|rfl|rfl|rfl|rfl|rfl|rfl|rfl;rw[show cJ 0 a b=(wrap32 (wrap32 a*wrap32 b)) by simp[cJ]];exact w32_bd _;by_cases h:wrap32 b=0;rw[show cJ 1 a b=(-1) by simp[cJ,h]];exact⟨d_,d_⟩;rw[show cJ 1 a b=(wrap32 ((wrap32 a).tdiv (wrap32 b))) by simp[cJ,h]];exact w32_bd _;by_cases h:wrap32 b=0;rw[show cJ 2 a b=(wrap32 a) by simp[cJ,h]];exact w32_bd _;rw[show cJ 2 a b=((wrap32 a).tmod (wrap32 b)) by simp[cJ,h]];exact yo _ _ J;rw[show cJ 3 a b=(wrap32 (wrap32 a+wrap32 b)) by simp[cJ]];exact w32_bd _;rw[show cJ 4 a b=(wrap32 (wrap32 a-wrap32 b)) by simp[cJ]];exact w32_bd _;rw[show cJ 5 a b=(wrap32 (wrap32 a*2 ^ (wrap32 b%32).toNat)) by simp[cJ]];exact w32_bd _;rw[show cJ 6 a b=(wrap32 a / 2 ^ (wrap32 b%32).toNat) by simp[cJ]];exact GF _ _ J;by_cases h:wrap32 a<wrap32 b;rw[show cJ 7 a b=(1) by simp[cJ,h]];exact⟨d_,d_⟩;rw[show cJ 7 a b=(0) by simp[cJ,h]];exact⟨d_,d_⟩;by_cases h:wrap32 a<=wrap32 b;rw[show cJ 8 a b=(1) by simp[cJ,h]];exact⟨d_,d_⟩;rw[show cJ 8 a b=(0) by simp[cJ,h]];exact⟨d_,d_⟩;by_cases h:wrap32 b<wrap32 a;rw[show cJ 9 a b=(1) by simp[cJ,h]];exact⟨d_,d_⟩;rw[show cJ 9 a b=(0) by simp[cJ,h]];exact⟨d_,d_⟩;by_cases h:wrap32 b<=wrap32 a;rw[show cJ 10 a b=(1) by simp[cJ,h]];exact⟨d_,d_⟩;rw[show cJ 10 a b=(0) by simp[cJ,h]];exact⟨d_,d_⟩;by_cases h:wrap32 a=wrap32 b;rw[show cJ 11 a b=(1) by simp[cJ,h]];exact⟨d_,d_⟩;rw[show cJ 11 a b=(0) by simp[cJ,h]];exact⟨d_,d_⟩;by_cases h:wrap32 a≠wrap32 b;rw[show cJ 12 a b=(1) by simp[cJ,h]];exact⟨d_,d_⟩;rw[show cJ 12 a b=(0) by simp[cJ,h]];exact⟨d_,d_⟩;rw[show cJ 13 a b=(bits .and .i32 (wrap32 a) (wrap32 b)) by simp[cJ]];exact jP _ _ _;rw[show cJ 14 a b=(bits .xor .i32 (wrap32 a) (wrap32 b)) by simp[cJ]];exact jP _ _ _;rw[show cJ 15 a b=(bits .or .i32 (wrap32 a) (wrap32 b)) by simp[cJ]];exact jP _ _ _
def B_(a:Int)(h: -2147483648<=a/\a<=2147483647):cJ 12 a 0=if a=0 then 0 else 1:=by have J:wrap32 a=a:=w32_id a h;have I:wrap32 0=0:=w32_id 0 ⟨d_,d_⟩;unfold cJ;simp only[J,I];by_cases h0:a=0 <;> simp[h0]
end
end Go.Proofs.YtjfmapphpijneaaGreatDoor
