import Derived.Test.YtffnkkpmlplfeaaGreatDoorRows
import Derived.Test.YtffnkkpmlplfeaaGreatDoorF00
import Derived.WalkSpells
import Derived.ProofKit
namespace Go.Proofs.YtffnkkpmlplfeaaGreatDoor
open Go.Proofs.Tryz
set_option linter.all false
set_option maxRecDepth 100000
set_option maxHeartbeats 0
variable[Inhabited Pick]
section
open Go.RowKit
namespace Ap
def Tw(op a b r:Int):Prop:=∀w:AT,(Calls prog 206 #[V op,V a,V b] w λe w'=>e=rW (V r)/\w'=w)/\Calls prog 167 #[V op,V a,V b] w λe w'=>e=rW (V r)/\w'=w
def xZ(a b:Int):Tw 0 a b (wrap32 (wrap32 a*wrap32 b))/\Tw 3 a b (wrap32 (wrap32 a+wrap32 b))/\Tw 4 a b (wrap32 (wrap32 a-wrap32 b))/\Tw 5 a b (wrap32 (wrap32 a*2 ^ (wrap32 b%32).toNat))/\Tw 6 a b (wrap32 a / 2 ^ (wrap32 b%32).toNat)/\Tw 13 a b (bits .and .i32 (wrap32 a) (wrap32 b))/\Tw 14 a b (bits .xor .i32 (wrap32 a) (wrap32 b))/\Tw 15 a b (bits .or .i32 (wrap32 a) (wrap32 b)):=by
 have h:=dQ a;have I:=dQ b;have ht:=iM (wrap32 b);have J:=CF (wrap32 a) (wrap32 b) h I;have U:=iL .and (wrap32 a) (wrap32 b);have Y:=iL .xor (wrap32 a) (wrap32 b);have Z:=iL .or (wrap32 a) (wrap32 b);refine⟨?_,?_,?_,?_,?_,?_,?_,?_⟩;all_goals (intro w;constructor;go_in;rotate_left;go_in)
 all_goals go_wp2
 all_goals go_ret
 all_goals refine⟨ret_intA ?_,rfl⟩
 all_goals first|rfl|exact w64_32 _|(rw[uH,w64_32,rJ])|(rw[uH])|exact oK _ _ h|exact ly _ _ h I|exact oJ _ _ h I|exact bits_xor _ _ h I
def CJ(a b:Int):Tw 7 a b (if wrap32 a<wrap32 b then 1 else 0)/\Tw 8 a b (if wrap32 a<=wrap32 b then 1 else 0)/\Tw 9 a b (if wrap32 b<wrap32 a then 1 else 0)/\Tw 10 a b (if wrap32 b<=wrap32 a then 1 else 0)/\Tw 11 a b (if wrap32 a=wrap32 b then 1 else 0)/\Tw 12 a b (if wrap32 a≠wrap32 b then 1 else 0):=by
 have I:=dQ a;have J:=dQ b;have Z:=iM (wrap32 b);refine⟨?_,?_,?_,?_,?_,?_⟩;all_goals split
 all_goals rename_i h
 all_goals first|(have Y:(wrap32 a == wrap32 b)=true:=Fc h;have U:(wrap32 a != wrap32 b)=false:=Fc h;clear h)|(have Y:(wrap32 a == wrap32 b)=false:=Fc h;have U:(wrap32 a != wrap32 b)=true:=Fc h;clear h)|skip
 all_goals (intro w;constructor;go_in;rotate_left;go_in)
 all_goals go_wp2
 all_goals go_ret
 all_goals refine⟨ret_intA ?_,rfl⟩
 all_goals first|rfl|exact w64_32 _|(rw[uH,w64_32,rJ])|(rw[uH])|exact oK _ _ I|exact ly _ _ I J|exact oJ _ _ I J|exact bits_xor _ _ I J
def CK(a b:Int):Tw 1 a b (if wrap32 b=0 then -1 else wrap32 ((wrap32 a).tdiv (wrap32 b)))/\Tw 2 a b (if wrap32 b=0 then wrap32 a else(wrap32 a).tmod (wrap32 b)):=by
 have I:=dQ a;have J:=dQ b;have ht:=iM (wrap32 b);have Y:=A_ (wrap32 a) (wrap32 b) I;have U:=tG (wrap32 a) (wrap32 b) I;refine⟨?_,?_⟩;all_goals split
 all_goals rename_i h
 all_goals first|(have Z:(wrap32 b == 0)=true:=by simp[h];clear h U Y)|(have Z:(wrap32 b == 0)=false:=by simp[h];clear U)|skip
 all_goals (intro w;constructor;go_in;rotate_left;go_in)
 all_goals go_wp2
 all_goals go_ret
 all_goals refine⟨ret_intA ?_,rfl⟩
 all_goals first|rfl|exact w64_32 _|(rw[uH,w64_32,rJ])|(rw[uH])|exact oK _ _ I|exact ly _ _ I J|exact oJ _ _ I J|exact bits_xor _ _ I J
def Ef(I a b:Int)(h:I<0∨15<I):Tw I a b 0:=by
 have Y:=dQ a;have U:=dQ b;have J:=iM (wrap32 b);intro w;rcases h with h|h;all_goals (constructor;go_in;rotate_left;go_in)
 all_goals go_wp2
 all_goals go_ret
 all_goals exact⟨rfl,rfl⟩
end Ap
end
section
open Go.RowKit
def oP{a b:GA}(h:a=b):Ending.returned (sV a)=rW (sV b):=by rw[h]
def dig(m:Nat):UInt8:=UInt8.ofNat (48+m%10)
def uS(m:Nat):(dig m).toNat=48+m%10:=by
 unfold dig;simp only[UInt8.toNat_ofNat'];omega
def tx(l:List UInt8):GA:=⟨l.toArray⟩
def oQ(l:List UInt8):(tx l).size=l.length:=by simp[tx,ByteArray.size]
def uT(a b:List UInt8):tx a++tx b=tx (a++b):=by
 apply ByteArray.ext;simp[tx]
end
section
open Go.RowKit Ap
def dZ(op a b:Int):Int:=
 if op=0 then(wrap32 (wrap32 a*wrap32 b))
 else if op=1 then(if wrap32 b=0 then(-1)else(wrap32 ((wrap32 a).tdiv (wrap32 b))))
 else if op=2 then(if wrap32 b=0 then(wrap32 a)else((wrap32 a).tmod (wrap32 b)))
 else if op=3 then(wrap32 (wrap32 a+wrap32 b))
 else if op=4 then(wrap32 (wrap32 a-wrap32 b))
 else if op=5 then(wrap32 (wrap32 a*2 ^ (wrap32 b%32).toNat))
 else if op=6 then(wrap32 a / 2 ^ (wrap32 b%32).toNat)
 else if op=7 then(if wrap32 a<wrap32 b then(1)else(0))
 else if op=8 then(if wrap32 a<=wrap32 b then(1)else(0))
 else if op=9 then(if wrap32 b<wrap32 a then(1)else(0))
 else if op=10 then(if wrap32 b<=wrap32 a then(1)else(0))
 else if op=11 then(if wrap32 a=wrap32 b then(1)else(0))
 else if op=12 then(if wrap32 a≠wrap32 b then(1)else(0))
 else if op=13 then(bits .and .i32 (wrap32 a) (wrap32 b))
 else if op=14 then(bits .xor .i32 (wrap32 a) (wrap32 b))
 else if op=15 then(bits .or .i32 (wrap32 a) (wrap32 b))
 else 0
def x_(I a b:Int):Tw I a b (dZ I a b):=by
 by_cases h:I<0∨15<I
 ·have e:dZ I a b=0:=by
   unfold dZ;iterate 16 rw[if_neg o_]
  rw[e];exact Ef I a b h
 ·have J:I=0∨I=1∨I=2∨I=3∨I=4∨I=5∨I=6∨I=7∨I=8∨I=9∨I=10∨I=11∨I=12∨I=13∨I=14∨I=15:=o_
  obtain⟨p0,U,Z,Y,p6,Jc,Je,Jd⟩:=xZ a b;obtain⟨c7,c8,c9,Jg,Jf,Jb⟩:=CJ a b;obtain⟨d1,d2⟩:=CK a b;rcases J with rfl|rfl|rfl|rfl|rfl|rfl|rfl|rfl|rfl|rfl|rfl|rfl|rfl|rfl|rfl|rfl;all_goals assumption
def Fx(op a b:Int)(w:AT):Calls prog 206 #[V op,V a,V b] w λe w'=>e=rW (V (dZ op a b))/\w'=w:=(x_ op a b w).1
def Fy(op a b:Int)(w:AT):Calls prog 167 #[V op,V a,V b] w λe w'=>e=rW (V (dZ op a b))/\w'=w:=(x_ op a b w).2
def et(z:Int):Prop:= -2147483648<=z/\z<=2147483647
def CL(x:Int)(n:Nat)(J: -2147483648<=x/\x<=2147483647): -2147483648<=x / 2 ^ n/\x / 2 ^ n<=2147483647:=by
 have h:(0:Int)<2 ^ n:=Int.pow_pos d_;have I:(1:Int)<=2 ^ n:=o_;constructor
 ·rw[Int.le_ediv_iff_mul_le h];have:(-2147483648:Int)*2 ^ n <= -2147483648*1:=Int.mul_le_mul_of_nonpos_left d_ I
  omega
 ·have h2:x / 2 ^ n<=x∨x / 2 ^ n<0:=by
   by_cases hx0:0<=x
   ·exact .inl (Int.ediv_le_self _ hx0)
   ·exact .inr (Int.ediv_neg_of_neg_of_pos o_ h)
  omega
def Eg(I a b:Int):et (dZ I a b):=by
 have J:=dQ a;have Y:=dQ b;by_cases h:I<0∨15<I
 ·have e:dZ I a b=0:=by unfold dZ;rw[if_neg o_];rw[if_neg o_];rw[if_neg o_];rw[if_neg o_];rw[if_neg o_];rw[if_neg o_];rw[if_neg o_];rw[if_neg o_];rw[if_neg o_];rw[if_neg o_];rw[if_neg o_];rw[if_neg o_];rw[if_neg o_];rw[if_neg o_];rw[if_neg o_];rw[if_neg o_]
  rw[e];exact⟨d_,d_⟩
 ·have U:I=0∨I=1∨I=2∨I=3∨I=4∨I=5∨I=6∨I=7∨I=8∨I=9∨I=10∨I=11∨I=12∨I=13∨I=14∨I=15:=o_
  rcases U with rfl|rfl|rfl|rfl|rfl|rfl|rfl|rfl|rfl|rfl|rfl|rfl|rfl|rfl|rfl|rfl
  ·rw[show dZ 0 a b=(wrap32 (wrap32 a*wrap32 b)) by simp[dZ]];exact dQ _
  ·by_cases h:wrap32 b=0
   ·rw[show dZ 1 a b=(-1) by simp[dZ,h]];exact⟨d_,d_⟩
   ·rw[show dZ 1 a b=(wrap32 ((wrap32 a).tdiv (wrap32 b))) by simp[dZ,h]];exact dQ _
  ·by_cases h:wrap32 b=0
   ·rw[show dZ 2 a b=(wrap32 a) by simp[dZ,h]];exact dQ _
   ·rw[show dZ 2 a b=((wrap32 a).tmod (wrap32 b)) by simp[dZ,h]];exact tG _ _ J
  ·rw[show dZ 3 a b=(wrap32 (wrap32 a+wrap32 b)) by simp[dZ]];exact dQ _
  ·rw[show dZ 4 a b=(wrap32 (wrap32 a-wrap32 b)) by simp[dZ]];exact dQ _
  ·rw[show dZ 5 a b=(wrap32 (wrap32 a*2 ^ (wrap32 b%32).toNat)) by simp[dZ]];exact dQ _
  ·rw[show dZ 6 a b=(wrap32 a / 2 ^ (wrap32 b%32).toNat) by simp[dZ]];exact CL _ _ J
  ·by_cases h:wrap32 a<wrap32 b
   ·rw[show dZ 7 a b=(1) by simp[dZ,h]];exact⟨d_,d_⟩
   ·rw[show dZ 7 a b=(0) by simp[dZ,h]];exact⟨d_,d_⟩
  ·by_cases h:wrap32 a<=wrap32 b
   ·rw[show dZ 8 a b=(1) by simp[dZ,h]];exact⟨d_,d_⟩
   ·rw[show dZ 8 a b=(0) by simp[dZ,h]];exact⟨d_,d_⟩
  ·by_cases h:wrap32 b<wrap32 a
   ·rw[show dZ 9 a b=(1) by simp[dZ,h]];exact⟨d_,d_⟩
   ·rw[show dZ 9 a b=(0) by simp[dZ,h]];exact⟨d_,d_⟩
  ·by_cases h:wrap32 b<=wrap32 a
   ·rw[show dZ 10 a b=(1) by simp[dZ,h]];exact⟨d_,d_⟩
   ·rw[show dZ 10 a b=(0) by simp[dZ,h]];exact⟨d_,d_⟩
  ·by_cases h:wrap32 a=wrap32 b
   ·rw[show dZ 11 a b=(1) by simp[dZ,h]];exact⟨d_,d_⟩
   ·rw[show dZ 11 a b=(0) by simp[dZ,h]];exact⟨d_,d_⟩
  ·by_cases h:wrap32 a≠wrap32 b
   ·rw[show dZ 12 a b=(1) by simp[dZ,h]];exact⟨d_,d_⟩
   ·rw[show dZ 12 a b=(0) by simp[dZ,h]];exact⟨d_,d_⟩
  ·rw[show dZ 13 a b=(bits .and .i32 (wrap32 a) (wrap32 b)) by simp[dZ]];exact iL _ _ _
  ·rw[show dZ 14 a b=(bits .xor .i32 (wrap32 a) (wrap32 b)) by simp[dZ]];exact iL _ _ _
  ·rw[show dZ 15 a b=(bits .or .i32 (wrap32 a) (wrap32 b)) by simp[dZ]];exact iL _ _ _
end
end Go.Proofs.YtffnkkpmlplfeaaGreatDoor
