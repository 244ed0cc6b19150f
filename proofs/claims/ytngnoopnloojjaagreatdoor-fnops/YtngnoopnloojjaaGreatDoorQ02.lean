import Derived.Test.YtngnoopnloojjaaGreatDoorRows
import Derived.Test.YtngnoopnloojjaaGreatDoorQ01
import Derived.WalkSpells
import Derived.ProofKit
namespace Go.Proofs.YtngnoopnloojjaaGreatDoor
open List
open Go.Proofs.Tryz
set_option linter.all false
set_option maxRecDepth 100000
set_option maxHeartbeats 0
section
open Go.RowKit
namespace Ap
def Tw(op a b r:Int):Prop:=∀w:AT,(Calls prog 5 #[V op,V a,V b] w λe w'=>e=rW (V r)/\w'=w)/\Calls prog 6 #[V op,V a,V b] w λe w'=>e=rW (V r)/\w'=w
def DP(a b:Int):Tw 0 a b (wrap32 (wrap32 a*wrap32 b))/\Tw 3 a b (wrap32 (wrap32 a+wrap32 b))/\Tw 4 a b (wrap32 (wrap32 a-wrap32 b))/\Tw 5 a b (wrap32 (wrap32 a*2 ^ (wrap32 b%32).toNat))/\Tw 6 a b (wrap32 a / 2 ^ (wrap32 b%32).toNat)/\Tw 13 a b (bits .and .i32 (wrap32 a) (wrap32 b))/\Tw 14 a b (bits .xor .i32 (wrap32 a) (wrap32 b))/\Tw 15 a b (bits .or .i32 (wrap32 a) (wrap32 b)):=by
 have H:=w32_bd a;have I:=w32_bd b;have O:=kC (wrap32 b);have J:=J0 (wrap32 a) (wrap32 b) H I;have Ja:=kB .and (wrap32 a) (wrap32 b);have Jc:=kB .xor (wrap32 a) (wrap32 b);have Jb:=kB .or (wrap32 a) (wrap32 b);refine⟨?_,?_,?_,?_,?_,?_,?_,?_⟩;all_goals (intro w;constructor;go_in;rotate_left;go_in)
 all_goals go_wp2
 all_goals go_ret
 all_goals refine⟨ret_intA ?_,rfl⟩
 all_goals first|rfl|exact w64_32 _|(rw[Be,w64_32,xR])|(rw[Be])|exact tw _ _ H|exact oZ _ _ H I|exact tv _ _ H I|exact bits_xor _ _ H I
def J4(a b:Int):Tw 7 a b (if wrap32 a<wrap32 b then 1 else 0)/\Tw 8 a b (if wrap32 a<=wrap32 b then 1 else 0)/\Tw 9 a b (if wrap32 b<wrap32 a then 1 else 0)/\Tw 10 a b (if wrap32 b<=wrap32 a then 1 else 0)/\Tw 11 a b (if wrap32 a=wrap32 b then 1 else 0)/\Tw 12 a b (if wrap32 a≠wrap32 b then 1 else 0):=by
 have H:=w32_bd a;have I:=w32_bd b;have U:=kC (wrap32 b);refine⟨?_,?_,?_,?_,?_,?_⟩;all_goals split
 all_goals rename_i h
 all_goals first|(have O:(wrap32 a == wrap32 b)=true:=D4 h;have J:(wrap32 a != wrap32 b)=false:=D4 h;clear h)|(have O:(wrap32 a == wrap32 b)=false:=D4 h;have J:(wrap32 a != wrap32 b)=true:=D4 h;clear h)|skip
 all_goals (intro w;constructor;go_in;rotate_left;go_in)
 all_goals go_wp2
 all_goals go_ret
 all_goals refine⟨ret_intA ?_,rfl⟩
 all_goals first|rfl|exact w64_32 _|(rw[Be,w64_32,xR])|(rw[Be])|exact tw _ _ H|exact oZ _ _ H I|exact tv _ _ H I|exact bits_xor _ _ H I
def J5(a b:Int):Tw 1 a b (if wrap32 b=0 then -1 else wrap32 ((wrap32 a).tdiv (wrap32 b)))/\Tw 2 a b (if wrap32 b=0 then wrap32 a else(wrap32 a).tmod (wrap32 b)):=by
 have H:=w32_bd a;have I:=w32_bd b;have U:=kC (wrap32 b);have J:=GZ (wrap32 a) (wrap32 b) H;have Ja:=Ae (wrap32 a) (wrap32 b) H;refine⟨?_,?_⟩;all_goals split
 all_goals rename_i h
 all_goals first|(have O:(wrap32 b == 0)=true:=by simp[h];clear h Ja J)|(have O:(wrap32 b == 0)=false:=by simp[h];clear Ja)|skip
 all_goals (intro w;constructor;go_in;rotate_left;go_in)
 all_goals go_wp2
 all_goals go_ret
 all_goals refine⟨ret_intA ?_,rfl⟩
 all_goals first|rfl|exact w64_32 _|(rw[Be,w64_32,xR])|(rw[Be])|exact tw _ _ H|exact oZ _ _ H I|exact tv _ _ H I|exact bits_xor _ _ H I
def MF(op a b:Int)(h:op<0\/15<op):Tw op a b 0:=by
 have J:=w32_bd a;have I:=w32_bd b;have H:=kC (wrap32 b);intro w;rcases h with h|h;all_goals (constructor;go_in;rotate_left;go_in)
 all_goals go_wp2
 all_goals go_ret
 all_goals exact⟨rfl,rfl⟩
end Ap
end
section
open Go.RowKit
def tx(l:List UInt8):IF:=⟨l.toArray⟩
def iD(l:List UInt8):(tx l).size=l.length:=by simp[tx,ByteArray.size]
def G6(s:IF):tx s.data.toList=s:= by apply ByteArray.ext;simp[tx]
end
section
open Go.RowKit Ap
def cL(op a b:Int):Int:=
 if op=0 then(wrap32 (wrap32 a*wrap32 b))
 else if op=1 then(if wrap32 b=0 then(-1)else(wrap32 ((wrap32 a).tdiv (wrap32 b))))
 else if op=2 then(if wrap32 b=0 then(wrap32 a)else((wrap32 a).tmod (wrap32 b)))
 else if op=3 then(wrap32 (wrap32 a+wrap32 b))
 else if op=4 then(wrap32 (wrap32 a-wrap32 b))
 else if op=5 then(wrap32 (wrap32 a*2 ^ (wrap32 b%32).toNat))
 else if op=6 then(wrap32 a / 2 ^ (wrap32 b%32).toNat)
 else if op=7 then(if wrap32 a<wrap32 b then(1)else(0))
 else if op=8 then(if wrap32 a<=wrap32 b then(1)else(0))
 else if op=9 then(if wrap32 b<wrap32 a then(1)else(0))
 else if op=10 then(if wrap32 b<=wrap32 a then(1)else(0))
 else if op=11 then(if wrap32 a=wrap32 b then(1)else(0))
 else if op=12 then(if wrap32 a≠wrap32 b then(1)else(0))
 else if op=13 then(bits .and .i32 (wrap32 a) (wrap32 b))
 else if op=14 then(bits .xor .i32 (wrap32 a) (wrap32 b))
 else if op=15 then(bits .or .i32 (wrap32 a) (wrap32 b))
 else 0
def DQ(op a b:Int):Tw op a b (cL op a b):=by
 by_cases h:op<0\/15<op
 ·have e:cL op a b=0:=by unfold cL;iterate 16 rw[if_neg o_]
  rw[e];exact MF op a b h
 have Ja:op=0\/op=1\/op=2\/op=3\/op=4\/op=5\/op=6\/op=7\/op=8\/op=9\/op=10\/op=11\/op=12\/op=13\/op=14\/op=15:=o_
 have⟨p0,H,J,I,X,Jc,Je,Jd⟩:=DP a b;have⟨Z,U,Y,Jg,Jf,Jb⟩:=J4 a b;have⟨d1,O⟩:=J5 a b;rcases Ja with rfl|rfl|rfl|rfl|rfl|rfl|rfl|rfl|rfl|rfl|rfl|rfl|rfl|rfl|rfl|rfl;all_goals assumption
def MG(op a b:Int)(w:AT):Calls prog 5 #[V op,V a,V b] w λe w'=>e=rW (V (cL op a b))/\w'=w:=(DQ op a b w).1
def O_(op a b:Int)(w:AT):Calls prog 6 #[V op,V a,V b] w λe w'=>e=rW (V (cL op a b))/\w'=w:=(DQ op a b w).2
def xM(z:Int):Prop:= -2147483648<=z/\z<=2147483647
def J6(x:Int)(n:Nat)(I: -2147483648<=x/\x<=2147483647): -2147483648<=x / 2 ^ n/\x / 2 ^ n<=2147483647:=by
 have h:(0:Int)<2 ^ n:=Int.pow_pos d_;have H:(1:Int)<=2 ^ n:=o_;constructor;rw[Int.le_ediv_iff_mul_le h];have:(-2147483648:Int)*2 ^ n <= -2147483648*1:=Int.mul_le_mul_of_nonpos_left d_ H;omega;have h2:x / 2 ^ n<=x\/x / 2 ^ n<0:=by by_cases hx0:0<=x;exact .inl (Int.ediv_le_self _ hx0);exact .inr (Int.ediv_neg_of_neg_of_pos o_ h)
 omega
def Am(op a b:Int):xM (cL op a b):=by
 have H:=w32_bd a;have I:=w32_bd b;by_cases h:op<0\/15<op;have e:cL op a b=0:=by unfold cL;rw[if_neg o_];rw[if_neg o_];rw[if_neg o_];rw[if_neg o_];rw[if_neg o_];rw[if_neg o_];rw[if_neg o_];rw[if_neg o_];rw[if_neg o_];rw[if_neg o_];rw[if_neg o_];rw[if_neg o_];rw[if_neg o_];rw[if_neg o_];rw[if_neg o_];rw[if_neg o_]
 rw[e];exact⟨d_,d_⟩;have Ja:op=0\/op=1\/op=2\/op=3\/op=4\/op=5\/op=6\/op=7\/op=8\/op=9\/op=10\/op=11\/op=12\/op=13\/op=14\/op=15:=o_;rcases Ja with rfl|rfl|rfl|rfl|rfl|rfl|rfl|rfl|rfl|rfl|rfl|rfl|rfl|rfl|rfl|rfl;rw[show cL 0 a b=(wrap32 (wrap32 a*wrap32 b)) by simp[cL]];exact w32_bd _;by_cases h:wrap32 b=0;rw[show cL 1 a b=(-1) by simp[cL,h]];exact⟨d_,d_⟩;rw[show cL 1 a b=(wrap32 ((wrap32 a).tdiv (wrap32 b))) by simp[cL,h]];exact w32_bd _;by_cases h:wrap32 b=0;rw[show cL 2 a b=(wrap32 a) by simp[cL,h]];exact w32_bd _;rw[show cL 2 a b=((wrap32 a).tmod (wrap32 b)) by simp[cL,h]];exact Ae _ _ H;rw[show cL 3 a b=(wrap32 (wrap32 a+wrap32 b)) by simp[cL]];exact w32_bd _;rw[show cL 4 a b=(wrap32 (wrap32 a-wrap32 b)) by simp[cL]];exact w32_bd _;rw[show cL 5 a b=(wrap32 (wrap32 a*2 ^ (wrap32 b%32).toNat)) by simp[cL]];exact w32_bd _;rw[show cL 6 a b=(wrap32 a / 2 ^ (wrap32 b%32).toNat) by simp[cL]];exact J6 _ _ H;by_cases h:wrap32 a<wrap32 b;rw[show cL 7 a b=(1) by simp[cL,h]];exact⟨d_,d_⟩;rw[show cL 7 a b=(0) by simp[cL,h]];exact⟨d_,d_⟩;by_cases h:wrap32 a<=wrap32 b;rw[show cL 8 a b=(1) by simp[cL,h]];exact⟨d_,d_⟩;rw[show cL 8 a b=(0) by simp[cL,h]];exact⟨d_,d_⟩;by_cases h:wrap32 b<wrap32 a;rw[show cL 9 a b=(1) by simp[cL,h]];exact⟨d_,d_⟩;rw[show cL 9 a b=(0) by simp[cL,h]];exact⟨d_,d_⟩;by_cases h:wrap32 b<=wrap32 a;rw[show cL 10 a b=(1) by simp[cL,h]];exact⟨d_,d_⟩;rw[show cL 10 a b=(0) by simp[cL,h]];exact⟨d_,d_⟩;by_cases h:wrap32 a=wrap32 b;rw[show cL 11 a b=(1) by simp[cL,h]];exact⟨d_,d_⟩;rw[show cL 11 a b=(0) by simp[cL,h]];exact⟨d_,d_⟩;by_cases h:wrap32 a≠wrap32 b;rw[show cL 12 a b=(1) by simp[cL,h]];exact⟨d_,d_⟩;rw[show cL 12 a b=(0) by simp[cL,h]];exact⟨d_,d_⟩;rw[show cL 13 a b=(bits .and .i32 (wrap32 a) (wrap32 b)) by simp[cL]];exact kB _ _ _;rw[show cL 14 a b=(bits .xor .i32 (wrap32 a) (wrap32 b)) by simp[cL]];exact kB _ _ _;rw[show cL 15 a b=(bits .or .i32 (wrap32 a) (wrap32 b)) by simp[cL]];exact kB _ _ _
def DR(a:Int)(h: -2147483648<=a/\a<=2147483647):cL 12 a 0=if a=0 then 0 else 1:=by have I:wrap32 a=a:=w32_id a h;have H:wrap32 0=0:=w32_id 0 ⟨d_,d_⟩;unfold cL;simp only[I,H];by_cases h0:a=0 <;> simp[h0]
end
section
variable{α:Type}
structure To where
 kd:Int
 text:IF
 num:Int
 pl:Nat
def cI(c:UInt8):Int:=(c.toNat:Int)
def tG(c:UInt8):Bool:=decide (c=32\/c=10)
def jt(c:UInt8):Bool:=eJ (cI c)
def gX(c:UInt8):Bool:=gR (cI c)
def a8(c:UInt8):Bool:=iL (cI c)
def numL(ds:List UInt8):Nat:=ds.foldl (λa c=>10*a+(c.toNat-48)) 0
def x_:List (List UInt8):=[[61,61],[33,61],[60,61],[62,61],[60,60],[62,62],[38,38],[124,124]]
def qP:List UInt8:=[40,41,123,125,91,93,59,44,61,60,62,43,45,42,47,37,38,124,94,33,126]
def cR(r:List UInt8):List UInt8:=if r.take 2∈x_ then r.take 2 else if r.take 1∈qP.map (λc=>[c])then r.take 1 else[]
def gY(r:List UInt8)(p:Nat):To×Nat:=
 match r with
 | []=>(⟨4,tx [],0,p⟩,0)
 | c::_=>
  if jt c then(if 20<(r.takeWhile gX).length then(⟨5,tx [],0,p⟩,0)else(⟨1,tx (r.takeWhile gX),0,p⟩,(r.takeWhile gX).length))
  else if a8 c then
   (if (c=48/\1<(r.takeWhile a8).length)\/2147483647<numL (r.takeWhile a8)\/((r.drop (r.takeWhile a8).length).head?.map jt).getD false=true then(⟨5,tx [],0,p⟩,0)
    else(⟨2,tx [],(numL (r.takeWhile a8):Int),p⟩,(r.takeWhile a8).length))
  else if cR r=[]then(⟨5,tx [],0,p⟩,0)else(⟨3,tx (cR r),0,p⟩,(cR r).length)
def ox(r:List UInt8):Nat:=(r.takeWhile tG).length
def x8(l:List UInt8)(e:Nat):To×Nat:=
 let b:=ox (l.drop e)
 let q:=gY (l.drop (e+b)) (e+b)
 (q.1,e+b+q.2)
def lN(l:List UInt8):Nat->Nat
 | 0=>0
 | i+1=>(x8 l (lN l i)).2
def ak(l:List UInt8)(i:Nat):To:=(x8 l (lN l i)).1
def Bw(r:List UInt8)(p:Nat):1<=(gY r p).1.kd/\(gY r p).1.kd<=5:=by
 unfold gY;split;exact⟨i_,i_⟩
 ·(repeat' split) <;> exact⟨i_,i_⟩
def G7(r:List UInt8)(p:Nat):(gY r p).1.pl=p:=by
 unfold gY;split;rfl
 ·(repeat' split) <;> rfl
def An(r:List UInt8)(k:Nat):(r.take k).length<=r.length:=by rw[length_take];omega
def pk(r:List UInt8):(cR r).length<=r.length/\(cR r).length<=2:=by
 unfold cR;split;exact⟨An _ _,by rw[length_take];omega⟩;split;exact⟨An _ _,by rw[length_take];omega⟩
 simp
theorem jY{α:Type}(p:α->Bool):∀r:List α,(r.takeWhile p).length<=r.length
 | []=>by simp
 | c::r=>by
  rw[takeWhile_cons];split
  have:=jY p r;simp;omega
  simp
def x9(p:α->Bool)(c:α)(r:List α)(h:p c=true):1<=((c::r).takeWhile p).length:=by rw[takeWhile_cons,if_pos h];simp
theorem DS(r:List UInt8)(p:Nat):(gY r p).2<=r.length/\((gY r p).1.kd<=3->1<=(gY r p).2):=by
 unfold gY;split;exact⟨i_,λh=>absurd h i_⟩;rename_i c r';split;rename_i hf;split;exact⟨i_,λh=>absurd h i_⟩;refine⟨jY _ _,λ_=>x9 _ _ _ ?_⟩;unfold gX gR;rw[show eJ (cI c)=true from hf];rfl;split;rename_i hd;split;exact⟨i_,λh=>absurd h i_⟩;exact⟨jY _ _,λ_=>x9 _ _ _ hd⟩;split;exact⟨i_,λh=>absurd h i_⟩;rename_i hs;refine⟨(pk _).1,λ_=>?_⟩;show 1<=(cR (c::r')).length;cases h:cR (c::r')with
 | nil=>exact absurd h hs
 | cons a b=>simp
def Ao(r:List UInt8):ox r<=r.length:=jY _ _
def G8(l:List UInt8)(e:Nat)(I:e<=l.length):e<=(x8 l e).2/\(x8 l e).2<=l.length/\((x8 l e).1.kd<=3->e<(x8 l e).2):=by have H:=Ao (l.drop e);rw[length_drop]at H;have h2:=DS (l.drop (e+ox (l.drop e))) (e+ox (l.drop e));rw[length_drop]at h2;unfold x8;dsimp only;refine⟨o_,o_,λh=>?_⟩;have:=h2.2 h;omega
theorem Aq(l:List UInt8):∀i,lN l i<=l.length
 | 0=>y_
 | i+1=>(G8 l _ (Aq l i)).2.1
def fd(l:List UInt8)(i:Nat):1<=(ak l i).kd/\(ak l i).kd<=5:=Bw _ _
end
structure PS where
 i:Nat
 op:Int
 er:Int
 pl:Int
def PS.ad(s:PS):PS:= {s with i:=s.i+1}
def wdB(t:To):Bool:=decide (t.kd=1\/t.kd=3)
def Dn(T:Nat->To)(c:Int)(s:PS):PS:=if s.er=0 then {s with er:=if (T s.i).kd=5 then 2 else c,pl:=((T s.i).pl:Int)} else s
def aJ(T:Nat->To)(x:List UInt8)(s:PS):Bool:=decide (s.er=0)&&wdB (T s.i)&&decide ((T s.i).text=tx x)
def fM(T:Nat->To)(x:List UInt8)(s:PS):PS:=if aJ T x s=true then s.ad else Dn T 3 s
def dP(T:Nat->To)(x:List UInt8)(s:PS):PS:=
 let s1:=fM T x (if aJ T x s=true/\s.op=30 then Dn T 4 s else s)
 {s1 with op:=s1.op+1}
def iz(T:Nat->To)(x:List UInt8)(s:PS):PS:= {fM T x s with op:=(fM T x s).op-1}
def JC(T:Nat->To)(s:PS):Bool:=decide (s.er=0)&&decide ((T s.i).kd=1) && !i7 (T s.i).text
def cW(T:Nat->To)(s:PS):IF×PS:=if JC T s=true then((T s.i).text,s.ad)else(tx [],Dn T 3 s)
def uI(T:Nat->To)(s:PS):Int×PS:=if s.er=0/\(T s.i).kd=2 then((T s.i).num,s.ad)else(0,Dn T 3 s)
def opsL:List (List UInt8×Nd×Int):=[([124,124],⟨9,0,tx []⟩,1),([38,38],⟨8,0,tx []⟩,2),([42],⟨7,0,tx []⟩,10),([47],⟨7,1,tx []⟩,10),([37],⟨7,2,tx []⟩,10),([43],⟨7,3,tx []⟩,9),([45],⟨7,4,tx []⟩,9),([60,60],⟨7,5,tx []⟩,8),([62,62],⟨7,6,tx []⟩,8),([60],⟨7,7,tx []⟩,7),([60,61],⟨7,8,tx []⟩,7),([62],⟨7,9,tx []⟩,7),([62,61],⟨7,10,tx []⟩,7),([61,61],⟨7,11,tx []⟩,6),([33,61],⟨7,12,tx []⟩,6),([38],⟨7,13,tx []⟩,5),([94],⟨7,14,tx []⟩,4),([124],⟨7,15,tx []⟩,3)]
def rM(T:Nat->To)(s:PS):Option (List UInt8×Nd×Int):=opsL.find? (λo=>aJ T o.1 s)
def i6:List (List UInt8):=[[45],[33],[126]]
structure O0 (T:Nat->To) (s:PS):Prop where
 un:∀x∈i6,aJ T x s=false
 par:aJ T [40] s=false
 inn:aJ T [105,110] s=false
 num:¬(s.er=0/\(T s.i).kd=2)
abbrev PT : Type := Int ⊕ (Int × (List Nd)) ⊕ Unit ⊕ ((List UInt8) × (List UInt8)) ⊕ IF ⊕ (Int × (List Nd)) ⊕ Unit ⊕ (List St) ⊕ St ⊕ Unit ⊕ (List IF)
abbrev PT.e (least : Int) : PT := .inl least
abbrev PT.lp (least : Int) (out : List Nd) : PT := .inr (.inl (least, out))
abbrev PT.o : PT := .inr (.inr (.inl ()))
abbrev PT.pr (a : List UInt8) (b : List UInt8) : PT := .inr (.inr (.inr (.inl (a, b))))
abbrev PT.ar (x : IF) : PT := .inr (.inr (.inr (.inr (.inl x))))
abbrev PT.al (k : Int) (out : List Nd) : PT := .inr (.inr (.inr (.inr (.inr (.inl (k, out))))))
abbrev PT.bl : PT := .inr (.inr (.inr (.inr (.inr (.inr (.inl ()))))))
abbrev PT.bs (out : List St) : PT := .inr (.inr (.inr (.inr (.inr (.inr (.inr (.inl out)))))))
abbrev PT.sg (s : St) : PT := .inr (.inr (.inr (.inr (.inr (.inr (.inr (.inr (.inl s))))))))
abbrev PT.st : PT := .inr (.inr (.inr (.inr (.inr (.inr (.inr (.inr (.inr (.inl ())))))))))
abbrev PT.pl (out : List IF) : PT := .inr (.inr (.inr (.inr (.inr (.inr (.inr (.inr (.inr (.inr out)))))))))
theorem PT.cs {motive : PT -> Prop} (e : ∀ (least : Int), motive (PT.e least)) (lp : ∀ (least : Int) (out : List Nd), motive (PT.lp least out)) (o : motive (PT.o)) (pr : ∀ (a : List UInt8) (b : List UInt8), motive (PT.pr a b)) (ar : ∀ (x : IF), motive (PT.ar x)) (al : ∀ (k : Int) (out : List Nd), motive (PT.al k out)) (bl : motive (PT.bl)) (bs : ∀ (out : List St), motive (PT.bs out)) (sg : ∀ (s : St), motive (PT.sg s)) (st : motive (PT.st)) (pl : ∀ (out : List IF), motive (PT.pl out)) (t_ : PT) : motive t_ :=
  match t_ with
  | .inl x0_ => e x0_
  | .inr (.inl (x0_, x1_)) => lp x0_ x1_
  | .inr (.inr (.inl ())) => o
  | .inr (.inr (.inr (.inl (x0_, x1_)))) => pr x0_ x1_
  | .inr (.inr (.inr (.inr (.inl x0_)))) => ar x0_
  | .inr (.inr (.inr (.inr (.inr (.inl (x0_, x1_)))))) => al x0_ x1_
  | .inr (.inr (.inr (.inr (.inr (.inr (.inl ())))))) => bl
  | .inr (.inr (.inr (.inr (.inr (.inr (.inr (.inl x0_))))))) => bs x0_
  | .inr (.inr (.inr (.inr (.inr (.inr (.inr (.inr (.inl x0_)))))))) => sg x0_
  | .inr (.inr (.inr (.inr (.inr (.inr (.inr (.inr (.inr (.inl ()))))))))) => st
  | .inr (.inr (.inr (.inr (.inr (.inr (.inr (.inr (.inr (.inr x0_))))))))) => pl x0_
abbrev PR : Type := (List Nd) ⊕ ((List Nd) × Int) ⊕ (List St) ⊕ (List IF)
abbrev PR.n (l : List Nd) : PR := .inl l
abbrev PR.a (l : List Nd) (k : Int) : PR := .inr (.inl (l, k))
abbrev PR.s (l : List St) : PR := .inr (.inr (.inl l))
abbrev PR.p (l : List IF) : PR := .inr (.inr (.inr l))
theorem PR.cs {motive : PR -> Prop} (n : ∀ (l : List Nd), motive (PR.n l)) (a : ∀ (l : List Nd) (k : Int), motive (PR.a l k)) (s : ∀ (l : List St), motive (PR.s l)) (p : ∀ (l : List IF), motive (PR.p l)) (t_ : PR) : motive t_ :=
  match t_ with
  | .inl x0_ => n x0_
  | .inr (.inl (x0_, x1_)) => a x0_ x1_
  | .inr (.inr (.inl x0_)) => s x0_
  | .inr (.inr (.inr x0_)) => p x0_
def OB(k:Int)(x:IF):St:=⟨k,x,[],[],0,0⟩
def OC(t:St)(e:List Nd):St:=if t.kd=3 then {t with f:=e} else {t with e:=e}
structure OD (T:Nat->To) (s:PS):Prop where
 int:aJ T [105,110,116] s=false
 fi:aJ T [105,102] s=false
 wh:aJ T [119,104,105,108,101] s=false
 re:aJ T [114,101,116,117,114,110] s=false
 ou:aJ T [111,117,116] s=false
structure PaC (T:Nat->To)(P:Nat->PT->PS->PR->PS->Prop):Prop where
 c_::
 ex:∀n m s a s1 r s',P n .o s (.n a) s1->P n (.lp m a) s1 r s'->P (n+1) (.e m) s r s'
 lpd:∀n m o(s:PS),s.er≠0->P (n+1) (.lp m o) s (.n o) s
 lps:∀n m o(s:PS),s.er=0->(∀x,rM T s=some x->x.2.2<m)->P (n+1) (.lp m o) s (.n o) s
 lpm:∀n m o(s:PS)(x:List UInt8×Nd×Int)a s1 r s',s.er=0->rM T s=some x->m<=x.2.2->P n (.e (x.2.2+1)) s.ad (.n a) s1->P n (.lp m (o++a++[x.2.1])) s1 r s'->P (n+1) (.lp m o) s r s'
 oun:∀n(k:Nat)(hk:k<3)s a(s':PS),aJ T (i6[k]'hk) s=true->(dP T (i6[k]'hk) s).er=0->P n .o (dP T (i6[k]'hk) s) (.n a) s'->P (n+1) .o s (.n (a++[⟨6,(k:Int),tx []⟩])) {s' with op:=s'.op-1}
 oud:∀n(k:Nat)(hk:k<3)s,aJ T (i6[k]'hk) s=true->(dP T (i6[k]'hk) s).er≠0->P (n+1) .o s (.n [⟨6,(k:Int),tx []⟩]) {dP T (i6[k]'hk) s with op:=(dP T (i6[k]'hk) s).op-1}
 prd:∀n x y s,(dP T x s).er≠0->P (n+1) (.pr x y) s (.n []) (iz T y (dP T x s))
 pre:∀n x y s a s',(dP T x s).er=0->P n (.e 1) (dP T x s) (.n a) s'->P (n+1) (.pr x y) s (.n a) (iz T y s')
 opa:∀n s r s',aJ T [40] s=true->P n (.pr [40] [41]) s r s'->P (n+1) .o s r s'
 oin:∀n(s:PS),aJ T [105,110] s=true->P (n+1) .o s (.n [⟨5,0,tx []⟩]) (iz T [41] (dP T [40] s.ad))
 onu:∀n(s:PS),s.er=0->(T s.i).kd=2->P (n+1) .o s (.n [⟨1,(T s.i).num,tx []⟩]) s.ad
 oix:∀n s a s',O0 T s->aJ T [91] (cW T s).2=true->P n (.pr [91] [93]) (cW T s).2 (.n a) s'->P (n+1) .o s (.n (a++[⟨3,0,(cW T s).1⟩])) s'
 oca:∀n s r s',O0 T s->aJ T [91] (cW T s).2=false->aJ T [40] (cW T s).2=true->P n (.ar (cW T s).1) (cW T s).2 r s'->P (n+1) .o s r s'
 ova:∀n s,O0 T s->aJ T [91] (cW T s).2=false->aJ T [40] (cW T s).2=false->P (n+1) .o s (.n [⟨2,0,(cW T s).1⟩]) (cW T s).2
 arg:∀n x s a k s',P n (.al 0 []) (dP T [40] s) (.a a k) s'->P (n+1) (.ar x) s (.n (a++[⟨4,k,x⟩])) (iz T [41] s')
 ald:∀n k o(s:PS),s.er≠0->P (n+1) (.al k o) s (.a o k) s
 al0:∀n k o(s:PS),s.er=0->¬0<k->aJ T [41] s=true->P (n+1) (.al k o) s (.a o k) s
 ale:∀n k o(s:PS)a s',s.er=0->0<k\/aJ T [41] s=false->P n (.e 1) s (.n a) s'->aJ T [44] s'=false->P (n+1) (.al k o) s (.a (o++a) (k+1)) s'
 alm:∀n k o(s:PS)a(s1:PS)r s',s.er=0->0<k\/aJ T [41] s=false->P n (.e 1) s (.n a) s1->aJ T [44] s1=true->P n (.al (k+1) (o++a)) s1.ad r s'->P (n+1) (.al k o) s r s'
 blk:∀n s a s',P n (.bs []) (dP T [123] s) (.s a) s'->P (n+1) .bl s (.s a) (iz T [125] s')
 bsd:∀n o(s:PS),s.er≠0\/aJ T [125] s=true->P (n+1) (.bs o) s (.s o) s
 bsm:∀n o(s:PS)a s1 r s',s.er=0->aJ T [125] s=false->P n .st s (.s a) s1->P n (.bs (o++a)) s1 r s'->P (n+1) (.bs o) s r s'
 sgd:∀n t s,(fM T [61] s).er≠0->P (n+1) (.sg t) s (.s [OC t []]) (fM T [59] (fM T [61] s))
 sge:∀n t s a s',(fM T [61] s).er=0->P n (.e 1) (fM T [61] s) (.n a) s'->P (n+1) (.sg t) s (.s [OC t a]) (fM T [59] s')
 sin:∀n(s:PS)r s',aJ T [105,110,116] s=true->P n (.sg (OB 1 (cW T s.ad).1)) (cW T s.ad).2 r s'->P (n+1) .st s r s'
 sif:∀n(s:PS)a s1(b:List St)s2,aJ T [105,102] s=true->P n (.pr [40] [41]) s.ad (.n a) s1->P n .bl s1 (.s b) s2->aJ T [101,108,115,101] s2=false->P (n+1) .st s (.s (⟨4,tx [],a,[],(b.length:Int),0⟩::b)) s2
 sel:∀n(s:PS)a s1(b:List St)(s2:PS)(c:List St)s',aJ T [105,102] s=true->P n (.pr [40] [41]) s.ad (.n a) s1->P n .bl s1 (.s b) s2->aJ T [101,108,115,101] s2=true->P n .bl s2.ad (.s c) s'->P (n+1) .st s (.s (⟨4,tx [],a,[],(b.length:Int),(c.length:Int)⟩::(b++c))) s'
 swh:∀n(s:PS)a s1(b:List St)s2,aJ T [119,104,105,108,101] s=true->P n (.pr [40] [41]) s.ad (.n a) s1->P n .bl s1 (.s b) s2->P (n+1) .st s (.s (⟨5,tx [],a,[],(b.length:Int),0⟩::b)) s2
 sre:∀n(s:PS)a s',aJ T [114,101,116,117,114,110] s=true->P n (.e 1) s.ad (.n a) s'->P (n+1) .st s (.s [⟨6,tx [],a,[],0,0⟩]) (fM T [59] s')
 sou:∀n(s:PS)a s',aJ T [111,117,116] s=true->P n (.pr [40] [41]) s.ad (.n a) s'->P (n+1) .st s (.s [⟨7,tx [],a,[],0,0⟩]) (fM T [59] s')
 sst:∀n s a s1 r s',OD T s->aJ T [91] (cW T s).2=true->P n (.pr [91] [93]) (cW T s).2 (.n a) s1->P n (.sg ⟨3,(cW T s).1,a,[],0,0⟩) s1 r s'->P (n+1) .st s r s'
 sca:∀n s a s',OD T s->aJ T [91] (cW T s).2=false->aJ T [40] (cW T s).2=true->P n (.ar (cW T s).1) (cW T s).2 (.n a) s'->P (n+1) .st s (.s [⟨8,tx [],a,[],0,0⟩]) (fM T [59] s')
 sse:∀n s r s',OD T s->aJ T [91] (cW T s).2=false->aJ T [40] (cW T s).2=false->P n (.sg (OB 2 (cW T s).1)) (cW T s).2 r s'->P (n+1) .st s r s'
 pld:∀n o(s:PS),s.er≠0\/(o=[]/\aJ T [41] s=true)->P (n+1) (.pl o) s (.p o) s
 ple:∀n o(s:PS),s.er=0->o≠[]\/aJ T [41] s=false->aJ T [44] (cW T (fM T [105,110,116] s)).2=false->P (n+1) (.pl o) s (.p (o++[(cW T (fM T [105,110,116] s)).1])) (cW T (fM T [105,110,116] s)).2
 plm:∀n o(s:PS)r s',s.er=0->o≠[]\/aJ T [41] s=false->aJ T [44] (cW T (fM T [105,110,116] s)).2=true->P n (.pl (o++[(cW T (fM T [105,110,116] s)).1])) (cW T (fM T [105,110,116] s)).2.ad r s'->P (n+1) (.pl o) s r s'
structure Pa (T:Nat->To)(a0:Nat)(a1:PT)(a2:PS)(a3:PR)(a4:PS):Prop where
 c_::
 out:∀P,PaC T P->P a0 a1 a2 a3 a4
theorem Pa.C{T:Nat->To}:PaC T (Pa T):=⟨λn m s a s1 r s' q0 q1=>⟨λP h=>h.ex n m s a s1 r s' (q0.out P h) (q1.out P h)⟩,
 λn m o s q0=>⟨λP h=>h.lpd n m o s q0⟩,
 λn m o s q0 q1=>⟨λP h=>h.lps n m o s q0 q1⟩,
 λn m o s x a s1 r s' q0 q1 q2 q3 q4=>⟨λP h=>h.lpm n m o s x a s1 r s' q0 q1 q2 (q3.out P h) (q4.out P h)⟩,
 λn k hk s a s' q0 q1 q2=>⟨λP h=>h.oun n k hk s a s' q0 q1 (q2.out P h)⟩,
 λn k hk s q0 q1=>⟨λP h=>h.oud n k hk s q0 q1⟩,
 λn x y s q0=>⟨λP h=>h.prd n x y s q0⟩,
 λn x y s a s' q0 q1=>⟨λP h=>h.pre n x y s a s' q0 (q1.out P h)⟩,
 λn s r s' q0 q1=>⟨λP h=>h.opa n s r s' q0 (q1.out P h)⟩,
 λn s q0=>⟨λP h=>h.oin n s q0⟩,
 λn s q0 q1=>⟨λP h=>h.onu n s q0 q1⟩,
 λn s a s' q0 q1 q2=>⟨λP h=>h.oix n s a s' q0 q1 (q2.out P h)⟩,
 λn s r s' q0 q1 q2 q3=>⟨λP h=>h.oca n s r s' q0 q1 q2 (q3.out P h)⟩,
 λn s q0 q1 q2=>⟨λP h=>h.ova n s q0 q1 q2⟩,
 λn x s a k s' q0=>⟨λP h=>h.arg n x s a k s' (q0.out P h)⟩,
 λn k o s q0=>⟨λP h=>h.ald n k o s q0⟩,
 λn k o s q0 q1 q2=>⟨λP h=>h.al0 n k o s q0 q1 q2⟩,
 λn k o s a s' q0 q1 q2 q3=>⟨λP h=>h.ale n k o s a s' q0 q1 (q2.out P h) q3⟩,
 λn k o s a s1 r s' q0 q1 q2 q3 q4=>⟨λP h=>h.alm n k o s a s1 r s' q0 q1 (q2.out P h) q3 (q4.out P h)⟩,
 λn s a s' q0=>⟨λP h=>h.blk n s a s' (q0.out P h)⟩,
 λn o s q0=>⟨λP h=>h.bsd n o s q0⟩,
 λn o s a s1 r s' q0 q1 q2 q3=>⟨λP h=>h.bsm n o s a s1 r s' q0 q1 (q2.out P h) (q3.out P h)⟩,
 λn t s q0=>⟨λP h=>h.sgd n t s q0⟩,
 λn t s a s' q0 q1=>⟨λP h=>h.sge n t s a s' q0 (q1.out P h)⟩,
 λn s r s' q0 q1=>⟨λP h=>h.sin n s r s' q0 (q1.out P h)⟩,
 λn s a s1 b s2 q0 q1 q2 q3=>⟨λP h=>h.sif n s a s1 b s2 q0 (q1.out P h) (q2.out P h) q3⟩,
 λn s a s1 b s2 c s' q0 q1 q2 q3 q4=>⟨λP h=>h.sel n s a s1 b s2 c s' q0 (q1.out P h) (q2.out P h) q3 (q4.out P h)⟩,
 λn s a s1 b s2 q0 q1 q2=>⟨λP h=>h.swh n s a s1 b s2 q0 (q1.out P h) (q2.out P h)⟩,
 λn s a s' q0 q1=>⟨λP h=>h.sre n s a s' q0 (q1.out P h)⟩,
 λn s a s' q0 q1=>⟨λP h=>h.sou n s a s' q0 (q1.out P h)⟩,
 λn s a s1 r s' q0 q1 q2 q3=>⟨λP h=>h.sst n s a s1 r s' q0 q1 (q2.out P h) (q3.out P h)⟩,
 λn s a s' q0 q1 q2 q3=>⟨λP h=>h.sca n s a s' q0 q1 q2 (q3.out P h)⟩,
 λn s r s' q0 q1 q2 q3=>⟨λP h=>h.sse n s r s' q0 q1 q2 (q3.out P h)⟩,
 λn o s q0=>⟨λP h=>h.pld n o s q0⟩,
 λn o s q0 q1 q2=>⟨λP h=>h.ple n o s q0 q1 q2⟩,
 λn o s r s' q0 q1 q2 q3=>⟨λP h=>h.plm n o s r s' q0 q1 q2 (q3.out P h)⟩⟩
abbrev Pa.ex {T}:=(Pa.C:PaC T _).ex
abbrev Pa.lpd {T}:=(Pa.C:PaC T _).lpd
abbrev Pa.lps {T}:=(Pa.C:PaC T _).lps
abbrev Pa.lpm {T}:=(Pa.C:PaC T _).lpm
abbrev Pa.oun {T}:=(Pa.C:PaC T _).oun
abbrev Pa.oud {T}:=(Pa.C:PaC T _).oud
abbrev Pa.prd {T}:=(Pa.C:PaC T _).prd
abbrev Pa.pre {T}:=(Pa.C:PaC T _).pre
abbrev Pa.opa {T}:=(Pa.C:PaC T _).opa
abbrev Pa.oin {T}:=(Pa.C:PaC T _).oin
abbrev Pa.onu {T}:=(Pa.C:PaC T _).onu
abbrev Pa.oix {T}:=(Pa.C:PaC T _).oix
abbrev Pa.oca {T}:=(Pa.C:PaC T _).oca
abbrev Pa.ova {T}:=(Pa.C:PaC T _).ova
abbrev Pa.arg {T}:=(Pa.C:PaC T _).arg
abbrev Pa.ald {T}:=(Pa.C:PaC T _).ald
abbrev Pa.al0 {T}:=(Pa.C:PaC T _).al0
abbrev Pa.ale {T}:=(Pa.C:PaC T _).ale
abbrev Pa.alm {T}:=(Pa.C:PaC T _).alm
abbrev Pa.blk {T}:=(Pa.C:PaC T _).blk
abbrev Pa.bsd {T}:=(Pa.C:PaC T _).bsd
abbrev Pa.bsm {T}:=(Pa.C:PaC T _).bsm
abbrev Pa.sgd {T}:=(Pa.C:PaC T _).sgd
abbrev Pa.sge {T}:=(Pa.C:PaC T _).sge
abbrev Pa.sin {T}:=(Pa.C:PaC T _).sin
abbrev Pa.sif {T}:=(Pa.C:PaC T _).sif
abbrev Pa.sel {T}:=(Pa.C:PaC T _).sel
abbrev Pa.swh {T}:=(Pa.C:PaC T _).swh
abbrev Pa.sre {T}:=(Pa.C:PaC T _).sre
abbrev Pa.sou {T}:=(Pa.C:PaC T _).sou
abbrev Pa.sst {T}:=(Pa.C:PaC T _).sst
abbrev Pa.sca {T}:=(Pa.C:PaC T _).sca
abbrev Pa.sse {T}:=(Pa.C:PaC T _).sse
abbrev Pa.pld {T}:=(Pa.C:PaC T _).pld
abbrev Pa.ple {T}:=(Pa.C:PaC T _).ple
abbrev Pa.plm {T}:=(Pa.C:PaC T _).plm
theorem Pa_i{T:Nat->To}{M:∀(a0:Nat)(a1:PT)(a2:PS)(a3:PR)(a4:PS),Pa T a0 a1 a2 a3 a4->Prop}
 (ex:∀n m s a s1 r s',∀q0:Pa T n .o s (.n a) s1,∀q1:Pa T n (.lp m a) s1 r s',M n .o s (.n a) s1 q0->M n (.lp m a) s1 r s' q1->∀u,M (n+1) (.e m) s r s' u)
 (lpd:∀n m o(s:PS),s.er≠0->∀u,M (n+1) (.lp m o) s (.n o) s u)
 (lps:∀n m o(s:PS),s.er=0->(∀x,rM T s=some x->x.2.2<m)->∀u,M (n+1) (.lp m o) s (.n o) s u)
 (lpm:∀n m o(s:PS)(x:List UInt8×Nd×Int)a s1 r s',s.er=0->rM T s=some x->m<=x.2.2->∀q3:Pa T n (.e (x.2.2+1)) s.ad (.n a) s1,∀q4:Pa T n (.lp m (o++a++[x.2.1])) s1 r s',M n (.e (x.2.2+1)) s.ad (.n a) s1 q3->M n (.lp m (o++a++[x.2.1])) s1 r s' q4->∀u,M (n+1) (.lp m o) s r s' u)
 (oun:∀n(k:Nat)(hk:k<3)s a(s':PS),aJ T (i6[k]'hk) s=true->(dP T (i6[k]'hk) s).er=0->∀q2:Pa T n .o (dP T (i6[k]'hk) s) (.n a) s',M n .o (dP T (i6[k]'hk) s) (.n a) s' q2->∀u,M (n+1) .o s (.n (a++[⟨6,(k:Int),tx []⟩])) {s' with op:=s'.op-1} u)
 (oud:∀n(k:Nat)(hk:k<3)s,aJ T (i6[k]'hk) s=true->(dP T (i6[k]'hk) s).er≠0->∀u,M (n+1) .o s (.n [⟨6,(k:Int),tx []⟩]) {dP T (i6[k]'hk) s with op:=(dP T (i6[k]'hk) s).op-1} u)
 (prd:∀n x y s,(dP T x s).er≠0->∀u,M (n+1) (.pr x y) s (.n []) (iz T y (dP T x s)) u)
 (pre:∀n x y s a s',(dP T x s).er=0->∀q1:Pa T n (.e 1) (dP T x s) (.n a) s',M n (.e 1) (dP T x s) (.n a) s' q1->∀u,M (n+1) (.pr x y) s (.n a) (iz T y s') u)
 (opa:∀n s r s',aJ T [40] s=true->∀q1:Pa T n (.pr [40] [41]) s r s',M n (.pr [40] [41]) s r s' q1->∀u,M (n+1) .o s r s' u)
 (oin:∀n(s:PS),aJ T [105,110] s=true->∀u,M (n+1) .o s (.n [⟨5,0,tx []⟩]) (iz T [41] (dP T [40] s.ad)) u)
 (onu:∀n(s:PS),s.er=0->(T s.i).kd=2->∀u,M (n+1) .o s (.n [⟨1,(T s.i).num,tx []⟩]) s.ad u)
 (oix:∀n s a s',O0 T s->aJ T [91] (cW T s).2=true->∀q2:Pa T n (.pr [91] [93]) (cW T s).2 (.n a) s',M n (.pr [91] [93]) (cW T s).2 (.n a) s' q2->∀u,M (n+1) .o s (.n (a++[⟨3,0,(cW T s).1⟩])) s' u)
 (oca:∀n s r s',O0 T s->aJ T [91] (cW T s).2=false->aJ T [40] (cW T s).2=true->∀q3:Pa T n (.ar (cW T s).1) (cW T s).2 r s',M n (.ar (cW T s).1) (cW T s).2 r s' q3->∀u,M (n+1) .o s r s' u)
 (ova:∀n s,O0 T s->aJ T [91] (cW T s).2=false->aJ T [40] (cW T s).2=false->∀u,M (n+1) .o s (.n [⟨2,0,(cW T s).1⟩]) (cW T s).2 u)
 (arg:∀n x s a k s',∀q0:Pa T n (.al 0 []) (dP T [40] s) (.a a k) s',M n (.al 0 []) (dP T [40] s) (.a a k) s' q0->∀u,M (n+1) (.ar x) s (.n (a++[⟨4,k,x⟩])) (iz T [41] s') u)
 (ald:∀n k o(s:PS),s.er≠0->∀u,M (n+1) (.al k o) s (.a o k) s u)
 (al0:∀n k o(s:PS),s.er=0->¬0<k->aJ T [41] s=true->∀u,M (n+1) (.al k o) s (.a o k) s u)
 (ale:∀n k o(s:PS)a s',s.er=0->0<k\/aJ T [41] s=false->∀q2:Pa T n (.e 1) s (.n a) s',aJ T [44] s'=false->M n (.e 1) s (.n a) s' q2->∀u,M (n+1) (.al k o) s (.a (o++a) (k+1)) s' u)
 (alm:∀n k o(s:PS)a(s1:PS)r s',s.er=0->0<k\/aJ T [41] s=false->∀q2:Pa T n (.e 1) s (.n a) s1,aJ T [44] s1=true->∀q4:Pa T n (.al (k+1) (o++a)) s1.ad r s',M n (.e 1) s (.n a) s1 q2->M n (.al (k+1) (o++a)) s1.ad r s' q4->∀u,M (n+1) (.al k o) s r s' u)
 (blk:∀n s a s',∀q0:Pa T n (.bs []) (dP T [123] s) (.s a) s',M n (.bs []) (dP T [123] s) (.s a) s' q0->∀u,M (n+1) .bl s (.s a) (iz T [125] s') u)
 (bsd:∀n o(s:PS),s.er≠0\/aJ T [125] s=true->∀u,M (n+1) (.bs o) s (.s o) s u)
 (bsm:∀n o(s:PS)a s1 r s',s.er=0->aJ T [125] s=false->∀q2:Pa T n .st s (.s a) s1,∀q3:Pa T n (.bs (o++a)) s1 r s',M n .st s (.s a) s1 q2->M n (.bs (o++a)) s1 r s' q3->∀u,M (n+1) (.bs o) s r s' u)
 (sgd:∀n t s,(fM T [61] s).er≠0->∀u,M (n+1) (.sg t) s (.s [OC t []]) (fM T [59] (fM T [61] s)) u)
 (sge:∀n t s a s',(fM T [61] s).er=0->∀q1:Pa T n (.e 1) (fM T [61] s) (.n a) s',M n (.e 1) (fM T [61] s) (.n a) s' q1->∀u,M (n+1) (.sg t) s (.s [OC t a]) (fM T [59] s') u)
 (sin:∀n(s:PS)r s',aJ T [105,110,116] s=true->∀q1:Pa T n (.sg (OB 1 (cW T s.ad).1)) (cW T s.ad).2 r s',M n (.sg (OB 1 (cW T s.ad).1)) (cW T s.ad).2 r s' q1->∀u,M (n+1) .st s r s' u)
 (sif:∀n(s:PS)a s1(b:List St)s2,aJ T [105,102] s=true->∀q1:Pa T n (.pr [40] [41]) s.ad (.n a) s1,∀q2:Pa T n .bl s1 (.s b) s2,aJ T [101,108,115,101] s2=false->M n (.pr [40] [41]) s.ad (.n a) s1 q1->M n .bl s1 (.s b) s2 q2->∀u,M (n+1) .st s (.s (⟨4,tx [],a,[],(b.length:Int),0⟩::b)) s2 u)
 (sel:∀n(s:PS)a s1(b:List St)(s2:PS)(c:List St)s',aJ T [105,102] s=true->∀q1:Pa T n (.pr [40] [41]) s.ad (.n a) s1,∀q2:Pa T n .bl s1 (.s b) s2,aJ T [101,108,115,101] s2=true->∀q4:Pa T n .bl s2.ad (.s c) s',M n (.pr [40] [41]) s.ad (.n a) s1 q1->M n .bl s1 (.s b) s2 q2->M n .bl s2.ad (.s c) s' q4->∀u,M (n+1) .st s (.s (⟨4,tx [],a,[],(b.length:Int),(c.length:Int)⟩::(b++c))) s' u)
 (swh:∀n(s:PS)a s1(b:List St)s2,aJ T [119,104,105,108,101] s=true->∀q1:Pa T n (.pr [40] [41]) s.ad (.n a) s1,∀q2:Pa T n .bl s1 (.s b) s2,M n (.pr [40] [41]) s.ad (.n a) s1 q1->M n .bl s1 (.s b) s2 q2->∀u,M (n+1) .st s (.s (⟨5,tx [],a,[],(b.length:Int),0⟩::b)) s2 u)
 (sre:∀n(s:PS)a s',aJ T [114,101,116,117,114,110] s=true->∀q1:Pa T n (.e 1) s.ad (.n a) s',M n (.e 1) s.ad (.n a) s' q1->∀u,M (n+1) .st s (.s [⟨6,tx [],a,[],0,0⟩]) (fM T [59] s') u)
 (sou:∀n(s:PS)a s',aJ T [111,117,116] s=true->∀q1:Pa T n (.pr [40] [41]) s.ad (.n a) s',M n (.pr [40] [41]) s.ad (.n a) s' q1->∀u,M (n+1) .st s (.s [⟨7,tx [],a,[],0,0⟩]) (fM T [59] s') u)
 (sst:∀n s a s1 r s',OD T s->aJ T [91] (cW T s).2=true->∀q2:Pa T n (.pr [91] [93]) (cW T s).2 (.n a) s1,∀q3:Pa T n (.sg ⟨3,(cW T s).1,a,[],0,0⟩) s1 r s',M n (.pr [91] [93]) (cW T s).2 (.n a) s1 q2->M n (.sg ⟨3,(cW T s).1,a,[],0,0⟩) s1 r s' q3->∀u,M (n+1) .st s r s' u)
 (sca:∀n s a s',OD T s->aJ T [91] (cW T s).2=false->aJ T [40] (cW T s).2=true->∀q3:Pa T n (.ar (cW T s).1) (cW T s).2 (.n a) s',M n (.ar (cW T s).1) (cW T s).2 (.n a) s' q3->∀u,M (n+1) .st s (.s [⟨8,tx [],a,[],0,0⟩]) (fM T [59] s') u)
 (sse:∀n s r s',OD T s->aJ T [91] (cW T s).2=false->aJ T [40] (cW T s).2=false->∀q3:Pa T n (.sg (OB 2 (cW T s).1)) (cW T s).2 r s',M n (.sg (OB 2 (cW T s).1)) (cW T s).2 r s' q3->∀u,M (n+1) .st s r s' u)
 (pld:∀n o(s:PS),s.er≠0\/(o=[]/\aJ T [41] s=true)->∀u,M (n+1) (.pl o) s (.p o) s u)
 (ple:∀n o(s:PS),s.er=0->o≠[]\/aJ T [41] s=false->aJ T [44] (cW T (fM T [105,110,116] s)).2=false->∀u,M (n+1) (.pl o) s (.p (o++[(cW T (fM T [105,110,116] s)).1])) (cW T (fM T [105,110,116] s)).2 u)
 (plm:∀n o(s:PS)r s',s.er=0->o≠[]\/aJ T [41] s=false->aJ T [44] (cW T (fM T [105,110,116] s)).2=true->∀q3:Pa T n (.pl (o++[(cW T (fM T [105,110,116] s)).1])) (cW T (fM T [105,110,116] s)).2.ad r s',M n (.pl (o++[(cW T (fM T [105,110,116] s)).1])) (cW T (fM T [105,110,116] s)).2.ad r s' q3->∀u,M (n+1) (.pl o) s r s' u)
 {a0:Nat}{a1:PT}{a2:PS}{a3:PR}{a4:PS}(u:Pa T a0 a1 a2 a3 a4):M a0 a1 a2 a3 a4 u:=
 (u.out (λa0 a1 a2 a3 a4=>∃z_,M a0 a1 a2 a3 a4 z_) ⟨λn m s a s1 r s' q0 q1=>⟨.ex n m s a s1 r s' q0.1 q1.1,ex n m s a s1 r s' _ _ q0.2 q1.2 _⟩,
 λn m o s q0=>⟨.lpd n m o s q0,lpd n m o s q0 _⟩,
 λn m o s q0 q1=>⟨.lps n m o s q0 q1,lps n m o s q0 q1 _⟩,
 λn m o s x a s1 r s' q0 q1 q2 q3 q4=>⟨.lpm n m o s x a s1 r s' q0 q1 q2 q3.1 q4.1,lpm n m o s x a s1 r s' q0 q1 q2 _ _ q3.2 q4.2 _⟩,
 λn k hk s a s' q0 q1 q2=>⟨.oun n k hk s a s' q0 q1 q2.1,oun n k hk s a s' q0 q1 _ q2.2 _⟩,
 λn k hk s q0 q1=>⟨.oud n k hk s q0 q1,oud n k hk s q0 q1 _⟩,
 λn x y s q0=>⟨.prd n x y s q0,prd n x y s q0 _⟩,
 λn x y s a s' q0 q1=>⟨.pre n x y s a s' q0 q1.1,pre n x y s a s' q0 _ q1.2 _⟩,
 λn s r s' q0 q1=>⟨.opa n s r s' q0 q1.1,opa n s r s' q0 _ q1.2 _⟩,
 λn s q0=>⟨.oin n s q0,oin n s q0 _⟩,
 λn s q0 q1=>⟨.onu n s q0 q1,onu n s q0 q1 _⟩,
 λn s a s' q0 q1 q2=>⟨.oix n s a s' q0 q1 q2.1,oix n s a s' q0 q1 _ q2.2 _⟩,
 λn s r s' q0 q1 q2 q3=>⟨.oca n s r s' q0 q1 q2 q3.1,oca n s r s' q0 q1 q2 _ q3.2 _⟩,
 λn s q0 q1 q2=>⟨.ova n s q0 q1 q2,ova n s q0 q1 q2 _⟩,
 λn x s a k s' q0=>⟨.arg n x s a k s' q0.1,arg n x s a k s' _ q0.2 _⟩,
 λn k o s q0=>⟨.ald n k o s q0,ald n k o s q0 _⟩,
 λn k o s q0 q1 q2=>⟨.al0 n k o s q0 q1 q2,al0 n k o s q0 q1 q2 _⟩,
 λn k o s a s' q0 q1 q2 q3=>⟨.ale n k o s a s' q0 q1 q2.1 q3,ale n k o s a s' q0 q1 _ q3 q2.2 _⟩,
 λn k o s a s1 r s' q0 q1 q2 q3 q4=>⟨.alm n k o s a s1 r s' q0 q1 q2.1 q3 q4.1,alm n k o s a s1 r s' q0 q1 _ q3 _ q2.2 q4.2 _⟩,
 λn s a s' q0=>⟨.blk n s a s' q0.1,blk n s a s' _ q0.2 _⟩,
 λn o s q0=>⟨.bsd n o s q0,bsd n o s q0 _⟩,
 λn o s a s1 r s' q0 q1 q2 q3=>⟨.bsm n o s a s1 r s' q0 q1 q2.1 q3.1,bsm n o s a s1 r s' q0 q1 _ _ q2.2 q3.2 _⟩,
 λn t s q0=>⟨.sgd n t s q0,sgd n t s q0 _⟩,
 λn t s a s' q0 q1=>⟨.sge n t s a s' q0 q1.1,sge n t s a s' q0 _ q1.2 _⟩,
 λn s r s' q0 q1=>⟨.sin n s r s' q0 q1.1,sin n s r s' q0 _ q1.2 _⟩,
 λn s a s1 b s2 q0 q1 q2 q3=>⟨.sif n s a s1 b s2 q0 q1.1 q2.1 q3,sif n s a s1 b s2 q0 _ _ q3 q1.2 q2.2 _⟩,
 λn s a s1 b s2 c s' q0 q1 q2 q3 q4=>⟨.sel n s a s1 b s2 c s' q0 q1.1 q2.1 q3 q4.1,sel n s a s1 b s2 c s' q0 _ _ q3 _ q1.2 q2.2 q4.2 _⟩,
 λn s a s1 b s2 q0 q1 q2=>⟨.swh n s a s1 b s2 q0 q1.1 q2.1,swh n s a s1 b s2 q0 _ _ q1.2 q2.2 _⟩,
 λn s a s' q0 q1=>⟨.sre n s a s' q0 q1.1,sre n s a s' q0 _ q1.2 _⟩,
 λn s a s' q0 q1=>⟨.sou n s a s' q0 q1.1,sou n s a s' q0 _ q1.2 _⟩,
 λn s a s1 r s' q0 q1 q2 q3=>⟨.sst n s a s1 r s' q0 q1 q2.1 q3.1,sst n s a s1 r s' q0 q1 _ _ q2.2 q3.2 _⟩,
 λn s a s' q0 q1 q2 q3=>⟨.sca n s a s' q0 q1 q2 q3.1,sca n s a s' q0 q1 q2 _ q3.2 _⟩,
 λn s r s' q0 q1 q2 q3=>⟨.sse n s r s' q0 q1 q2 q3.1,sse n s r s' q0 q1 q2 _ q3.2 _⟩,
 λn o s q0=>⟨.pld n o s q0,pld n o s q0 _⟩,
 λn o s q0 q1 q2=>⟨.ple n o s q0 q1 q2,ple n o s q0 q1 q2 _⟩,
 λn o s r s' q0 q1 q2 q3=>⟨.plm n o s r s' q0 q1 q2 q3.1,plm n o s r s' q0 q1 q2 _ q3.2 _⟩⟩).2
section
variable{s s':PS}{x:List UInt8}
def ls(T:Nat->To)(s:PS):Prop:=s.er≠0\/(T s.i).kd=5
def qL(T:Nat->To)(s:PS):Int×Int:=if s.er=0 then(2,((T s.i).pl:Int))else(s.er,s.pl)
def Dm(T:Nat->To)(s s':PS):Prop:=ls T s->ls T s'/\qL T s'=qL T s
section
variable{T:Nat->To}
def Dm.refl(s:PS):Dm T s s:=λh=>⟨h,rfl⟩
def Dm.trans{a b c:PS}(h:Dm T a b)(h':Dm T b c):Dm T a c:=λhd=>by have⟨h1,h2⟩:=h hd;have⟨h3,h4⟩:=h' h1;exact⟨h3,h4.trans h2⟩
def Dm.no(h:¬ls T s):Dm T s s':=λhd=>absurd hd h
def eI(h:aJ T x s=true):¬ls T s/\s.er=0/\wdB (T s.i)=true/\(T s.i).text=tx x:=by unfold aJ at h;simp only[Io,K0]at h;obtain⟨⟨H,h2⟩,h3⟩:=h;refine⟨λhd=>?_,H,h2,h3⟩;rcases hd with hd|hd;exact hd H;unfold wdB at h2;simp[hd]at h2
theorem JD(h:ls T s):aJ T x s=false:=by
 cases hi:aJ T x s with
 | false=>rfl
 | true=>exact absurd h (eI hi).1
def DT(c:Int)(s:PS):Dm T s (Dn T c s):=λh=>by unfold Dn;by_cases he:s.er=0;rw[if_pos he];have h5:(T s.i).kd=5:=h.resolve_left (λh=>h he);refine⟨.inl (by simp[h5]),?_⟩;unfold qL;simp[h5,he];rw[if_neg he];exact⟨h,rfl⟩
def rN(s:PS)(k:Int):Dm T s {s with op:=k}:=λh=>⟨h,rfl⟩
def gr(x:List UInt8)(s:PS):Dm T s (fM T x s):=λh=>by unfold fM;rw[JD h];exact DT 3 s h
def lO(x:List UInt8)(s:PS):Dm T s (dP T x s):=λh=>by unfold dP;dsimp only;rw[JD h,if_neg i_];exact((gr x s).trans (rN _ _)) h
def dr(x:List UInt8)(s:PS):Dm T s (iz T x s):=(gr x s).trans (rN _ _)
def MH(h:ls T s):JC T s=false:=by unfold JC;rcases h with h|h;simp[h];simp[h]
def jZ(s:PS):Dm T s (cW T s).2:=λh=>by unfold cW;rw[MH h];exact DT 3 s h
def JE(s:PS):Dm T s (uI T s).2:=λh=>by unfold uI;rw[if_neg (λ⟨h1,h2⟩=>by rcases h with h|h;exact h h1;omega)];exact DT 3 s h
def DU{x:List UInt8×Nd×Int}(h:rM T s=some x):aJ T x.1 s=true/\x∈opsL:=by unfold rM at h;exact⟨find?_some (p:=λ(o:List UInt8×Nd×Int)=>aJ T o.1 s) h,mem_of_find?_eq_some h⟩
theorem Pa.dm{n:Nat}{k:PT}{r:PR}(h:Pa T n k s r s'):Dm T s s':=by
 induction h using Pa_i with
 | ex n m s a s1 r s' h1 h2 i1 i2=>exact i1.trans i2
 | lpm n m o s x a s1 r s' h1 h2 h3 h4 h5 i4 i5=>exact Dm.no (eI (DU h2).1).1
 | prd n x y s h1=>exact(lO x s).trans (dr y _)
 | pre n x y s a s' h1 h2 i2=>exact((lO x s).trans i2).trans (dr y _)
 | onu n s h1 h2=>exact Dm.no (λh=>by rcases h with h|h;exact h h1;omega)
 | ova n s h1 h2 h3=>exact jZ s
 | arg n x s a k s' h1 i1=>exact((lO _ s).trans i1).trans (dr _ _)
 | alm n k o s a s1 r s' h1 h2 h3 h4 h5 i3 i5=>exact λhd=>absurd (i3 hd).1 (eI h4).1
 | blk n s a s' h1 i1=>exact((lO _ s).trans i1).trans (dr _ _)
 | bsm n o s a s1 r s' h1 h2 h3 h4 i3 i4=>exact i3.trans i4
 | sgd n t s h1=>exact(gr _ s).trans (gr _ _)
 | sge n t s a s' h1 h2 i2=>exact((gr _ s).trans i2).trans (gr _ _)
 | sst n s a s1 r s' h1 h2 h3 h4 i3 i4=>exact(jZ s).trans (i3.trans i4)
 | sca n s a s' h1 h2 h3 h4 i4=>exact(jZ s).trans (i4.trans (gr _ _))
 | sse n s r s' h1 h2 h3 h4 i4=>exact(jZ s).trans i4
 | pld n o s h1=>exact Dm.refl _
 | ple n o s h1 h2 h3=>exact(gr _ s).trans (jZ _)
 | plm n o s r s' h1 h2 h3 h4 i4=>exact λhd=>absurd (((gr _ s).trans (jZ _)) hd).1 (eI h3).1
 | _=>first|exact Dm.refl _|exact Dm.no (eI (by assumption)).1|(rename_i i w;first|exact i|exact(jZ _).trans i)
end
end
section
structure OE (T:Nat->To) (K:Nat):Prop where
 lt:∀i,i<K->(T i).kd<=3
 at4:4<=(T K).kd
 ge:∀i,1<=(T i).kd
def Mo(K:Nat)(s:PS):Nat:=if s.er=0 then K-s.i+1 else 0
def Wf(K:Nat)(s:PS):Prop:=s.i<=K
section
variable{T:Nat->To}{K:Nat}
def MI(I:OE T K){s:PS}(h:Wf K s)(H:(T s.i).kd<=3)(J:s.er=0):Wf K s.ad/\Mo K s.ad<Mo K s:=by
 have Ja:s.i<K:=by
  have:s.i<=K:=h
  by_cases e:s.i=K;rw[e]at H;have:=I.at4;omega;omega
 refine⟨by show s.i+1<=K;omega,?_⟩;unfold Mo PS.ad;simp only[J,if_true];omega
def G9{t:To}(h:wdB t=true):t.kd<=3:=by unfold wdB at h;simp at h;omega
def MJ(J:OE T K){x:List UInt8}{s:PS}(h:Wf K s)(O:aJ T x s=true):Wf K s.ad/\Mo K s.ad<Mo K s:=by obtain⟨-,I,H,-⟩:=eI O;exact MI J h (G9 H) I
end
def oy(l:List St):Nat:=(l.map (λs=>1+s.e.length+s.f.length+if s.kd=6 then 0 else 10000000)).sum
def Ha:oy []=0:=rfl
def j_(s:St)(l:List St):oy (s::l)=1+s.e.length+s.f.length+(if s.kd=6 then 0 else 10000000)+oy l:=by simp[oy]
def ju{s:St}{l:List St}(h:s.kd≠6):1000000<oy (s::l):=by rw[j_,if_neg h];omega
theorem ya{T:Nat->To}{n:Nat}{t:St}{s:PS}{r:List St}{I:PS}(h:Pa T n (.sg t) s (.s r) I)(J:t.kd≠6):1000000<oy r:=by
 have H:∀a,(OC t a).kd≠6:=λa=>by unfold OC;split <;> exact J
 cases h using Pa_i with
 | sgd=>exact ju (H _)
 | sge=>exact ju (H _)
def Ar(a b:List St):oy (a++b)=oy a+oy b:=by simp[oy]
def PR.sz:PR->Nat
 | .inl l =>l.length
 | .inr (.inl (l, _)) =>l.length
 | .inr (.inr (.inl l)) =>oy l
 | .inr (.inr (.inr l)) =>l.length
theorem Pa.up{T:Nat->To}{n:Nat}{k:PT}{s:PS}{r:PR}{H:PS}(h:Pa T n k s r H):Pa T (n+1) k s r H:=⟨λP c=>h.out (λn=>P (n+1)) ⟨λn=>c.ex (n+1),λn=>c.lpd (n+1),λn=>c.lps (n+1),λn=>c.lpm (n+1),λn=>c.oun (n+1),λn=>c.oud (n+1),λn=>c.prd (n+1),λn=>c.pre (n+1),λn=>c.opa (n+1),λn=>c.oin (n+1),λn=>c.onu (n+1),λn=>c.oix (n+1),λn=>c.oca (n+1),λn=>c.ova (n+1),λn=>c.arg (n+1),λn=>c.ald (n+1),λn=>c.al0 (n+1),λn=>c.ale (n+1),λn=>c.alm (n+1),λn=>c.blk (n+1),λn=>c.bsd (n+1),λn=>c.bsm (n+1),λn=>c.sgd (n+1),λn=>c.sge (n+1),λn=>c.sin (n+1),λn=>c.sif (n+1),λn=>c.sel (n+1),λn=>c.swh (n+1),λn=>c.sre (n+1),λn=>c.sou (n+1),λn=>c.sst (n+1),λn=>c.sca (n+1),λn=>c.sse (n+1),λn=>c.pld (n+1),λn=>c.ple (n+1),λn=>c.plm (n+1)⟩⟩
theorem Pa.ups{T:Nat->To}{k:PT}{s:PS}{r:PR}{s':PS}:∀ {n m:Nat},n<=m->Pa T n k s r s'->Pa T m k s r s'
 | n,m,hm,h=>by
  obtain⟨d,rfl⟩:∃d,m=n+d:=⟨m-n,o_⟩;clear hm
  induction d with
  | zero=>exact h
  | succ d ih=>exact ih.up
end
section
variable{x y l:List UInt8}{s:PS}{t:To}
def fQ(t:To):Int:=if t.kd=4 then 0 else if t.kd=1 then(if i7 t.text=true then 3 else 1)else t.kd
def J7(x:List UInt8):Bool:=x == [105,110,116] || x == [105,102] || x == [101,108,115,101] || x == [119,104,105,108,101] || x == [114,101,116,117,114,110] || x == [105,110] || x == [111,117,116]
def Hb(x:List UInt8):i7 (tx x)=J7 x:=by unfold i7 J7 tx;rw[ByteArray.toList_eq]
def jc(x:List UInt8):Bool:=J7 x || !((x.head?.map jt).getD false)
def yb(h:tx x=tx y):x=y:=by unfold tx at h;simpa using h
theorem yc(r:List UInt8)(p:Nat)(h:(gY r p).1.kd=1):∃c q,(gY r p).1.text=tx (c::q)/\jt c=true:=by
 unfold gY at h⊢;cases r with
 | nil=>simp at h
 | cons c r=>
  dsimp only at h⊢;cases hf:jt c with
  | true=>
   rw[hf]at h;simp only[if_true]at h⊢;split at h;simp at h;rename_i hl;rw[if_neg hl];refine⟨c,r.takeWhile gX,?_,hf⟩;have:gX c=true:=by unfold gX gR;rw[show eJ (cI c)=true from hf];rfl
   rw[takeWhile_cons,if_pos this]
  | false=>
   exfalso;rw[hf]at h;simp only[Bool.false_eq_true,if_false]at h
   (repeat' split at h) <;> simp at h
def Bz(l:List UInt8)(i:Nat)(h:(ak l i).kd=1):∃c q,(ak l i).text=tx (c::q)/\jt c=true:=yc _ _ h
theorem As(Y:s.er=0)(H:jc x=true){tt:IF}(Z:fQ (ak l s.i)=3->tt=(ak l s.i).text):
  (decide (fQ (ak l s.i)=3)&&decide (tt=tx x))=aJ (ak l) x s:=by
 have hk:=fd l s.i;have I:=Bz l s.i;unfold aJ wdB;rw[decide_eq_true Y,Bool.true_and];generalize ak l s.i=t at*;by_cases h3:fQ t=3;rw[decide_eq_true h3,Bool.true_and,Z h3];have:t.kd=1\/t.kd=3:=by unfold fQ at h3;split at h3;simp at h3;split at h3;rename_i h;exact .inl h;exact .inr h3
 rw[decide_eq_true this,Bool.true_and];rw[decide_eq_false h3,Bool.false_and];symm;rw[Bool.and_eq_false_iff];by_cases h1:t.kd=1;right;rw[decide_eq_false_iff_not];intro e;have O:i7 t.text=false:=by
  cases hb:i7 t.text with
  | false=>rfl
  | true=>exact absurd (by unfold fQ;simp[h1,hb]) h3
 have⟨c,q,J,U⟩:=I h1;have X:=yb (J.symm.trans e);unfold jc at H;rw[<-Hb,<-e,O,<-X]at H;simp[U]at H
 left;rw[decide_eq_false_iff_not];rintro(h|h);exact h1 h;exact h3 (by unfold fQ;simp[h])
def JF(h:s.er=0):JC (ak l) s=decide (fQ (ak l s.i)=1):=by
 have H:=fd l s.i;unfold JC fQ;rw[decide_eq_true h,Bool.true_and];generalize ak l s.i=t at*;by_cases h1:t.kd=1;cases hb:i7 t.text <;> simp[h1]
 have:¬(if t.kd=4 then(0:Int)else if t.kd=1 then(if i7 t.text=true then 3 else 1)else t.kd)=1:=by rw[if_neg h1];split <;> omega
 rw[decide_eq_false h1,decide_eq_false this,Bool.false_and]
def ye(H:1<=t.kd):fQ t=2↔t.kd=2:=by
 unfold fQ;split;constructor <;> intro h <;> omega
 split;split <;> (constructor <;> intro h <;> omega)
 exact Iff.rfl
def J8(H:1<=t.kd):fQ t=0↔t.kd=4:=by
 unfold fQ;split;rename_i h;exact⟨λ_=>h,λ_=>rfl⟩;split;split <;> (constructor <;> intro h <;> omega)
 constructor <;> intro h <;> omega
section
variable{T:Nat->To}
def fR(h:¬ls T s):s.er=0:=by by_cases h0:s.er=0;exact h0;exact absurd (.inl h0) h
def JG(h:¬ls T s):(T s.i).kd≠5:=λh5=>h (.inr h5)
def Au(h:¬ls T s){c:Int}(H:c≠0):ls T (Dn T c s)/\qL T (Dn T c s)=(c,((T s.i).pl:Int)):=by have I:=fR h;have h5:=JG h;unfold Dn;rw[if_pos I,if_neg h5];exact⟨.inl H,by unfold qL;simp[H]⟩
def DV(h:aJ T x s=true):fM T x s=s.ad:=by unfold fM;rw[if_pos h]
def JH(H:¬ls T s)(h:aJ T x s=false):ls T (fM T x s)/\qL T (fM T x s)=(3,((T s.i).pl:Int)):=by unfold fM;rw[h,if_neg i_];exact Au H d_
def J9(h:aJ T x s=true)(H:s.op≠30):dP T x s={s.ad with op:=s.op+1}:=by unfold dP;dsimp only;rw[if_neg (λe=>H e.2),DV h];rfl
def Hc(h:aJ T x s=true)(J:s.op=30):ls T (dP T x s)/\qL T (dP T x s)=(4,((T s.i).pl:Int)):=by have H:=(eI h).1;have⟨I,h2⟩:=Au H (c:=4) d_;unfold dP;dsimp only;rw[if_pos ⟨h,J⟩];have⟨h3,h4⟩:=gr x _ I;exact⟨h3,h4.trans h2⟩
def JI(H:¬ls T s)(h:aJ T x s=false):ls T (dP T x s)/\qL T (dP T x s)=(3,((T s.i).pl:Int)):=by unfold dP;dsimp only;rw[if_neg (λe=>by rw[h]at e;cases e.1)];exact JH H h
def Ka(h:JC T s=true):cW T s=((T s.i).text,s.ad):=by unfold cW;rw[if_pos h]
def JJ(H:¬ls T s)(h:JC T s=false):ls T (cW T s).2/\qL T (cW T s).2=(3,((T s.i).pl:Int)):=by unfold cW;rw[h,if_neg i_];exact Au H d_
def DW(H:s.er=0)(h:(T s.i).kd=2):uI T s=((T s.i).num,s.ad):=by unfold uI;rw[if_pos ⟨H,h⟩]
def MK(H:¬ls T s)(h:(T s.i).kd≠2):ls T (uI T s).2/\qL T (uI T s).2=(3,((T s.i).pl:Int)):=by unfold uI;rw[if_neg (λe=>h e.2)];exact Au H d_
def Kb(h:aJ T x s=true)(h':aJ T y s=true):x=y:=yb ((eI h).2.2.2.symm.trans (eI h').2.2.2)
def Kc:(opsL.map (·.1)).Nodup:=by decide
def Hd{a b:List UInt8×Nd×Int}(O:a∈opsL)(U:b∈opsL)(h:a.1=b.1):a=b:=by
 obtain⟨i,I,rfl⟩:=getElem_of_mem O;obtain⟨j,H,rfl⟩:=getElem_of_mem U;have J:=Kc;have Jb:i<(opsL.map (·.1)).length:=by rw[K8];exact I
 have Ja:j<(opsL.map (·.1)).length:=by rw[K8];exact H
 have:(opsL.map (·.1))[i]'Jb=(opsL.map (·.1))[j]'Ja:=by rw[getElem_map,getElem_map];exact h
 have e:=(getElem_inj J).1 this;subst e;rfl
theorem ML{o:List UInt8×Nd×Int}(H:o∈opsL)(h:aJ T o.1 s=true):rM T s=some o:=by
 cases hf:rM T s with
 | none=>unfold rM at hf;have:=find?_eq_none.1 hf o H;exact absurd h this
 | some x=>have⟨I,h2⟩:=DU hf;rw[Hd h2 H (Kb I h)]
def He(h:∀o∈opsL,aJ T o.1 s=false):rM T s=none:=by unfold rM;exact find?_eq_none.2 λo ho=>by rw[h o ho];simp
end
def mJ:List (List UInt8×Int×Int×Int):=[([124,124],1,9,0),([38,38],2,8,0),([124],3,7,15),([94],4,7,14),([38],5,7,13),([61,61],6,7,11),([33,61],6,7,12),([60],7,7,7),([60,61],7,7,8),([62],7,7,9),([62,61],7,7,10),([60,60],8,7,5),([62,62],8,7,6),([43],9,7,3),([45],9,7,4),([42],10,7,0),([47],10,7,1),([37],10,7,2)]
def Hf(b:List UInt8×Int×Int×Int):List UInt8×Nd×Int:=(b.1,⟨b.2.2.1,b.2.2.2,tx []⟩,b.2.1)
def Hg{b:List UInt8×Int×Int×Int}(h:b∈mJ):Hf b∈opsL:=by simp only[mJ,mem_cons,not_mem_nil,or_false]at h;unfold opsL;rcases h with rfl|rfl|rfl|rfl|rfl|rfl|rfl|rfl|rfl|rfl|rfl|rfl|rfl|rfl|rfl|rfl|rfl|rfl <;> simp[Hf]
def Hh:∀x∈opsL.map (·.1),x∈mJ.map (·.1):=by decide
def Hi:∀x∈mJ.map (·.1),jc x=true:=by decide
def Hj{T:Nat->To}{b:List UInt8×Int×Int×Int}(hb:b∈mJ)(h:aJ T b.1 s=true):rM T s=some (Hf b):=ML (Hg hb) h
def DX{T:Nat->To}(h:∀b∈mJ,aJ T b.1 s=false):rM T s=none:=He λo ho=>by have⟨b,hb,e⟩:=mem_map.1 (Hh o.1 (mem_map.2 ⟨o,ho,rfl⟩));rw[<-e];exact h b hb
def Hk:∀b∈mJ,1<=b.2.1/\b.2.1<=10:=by decide
end
section
variable{α:Type}{l:List UInt8}{m i:Nat}
theorem rO{α:Type}(p:α->Bool):∀(r:List α) (d:Nat),d<=r.length->(∀k (hk:k<r.length),k<d->p r[k]=true)->(∀hk:d<r.length,p r[d]=false)->r.takeWhile p=r.take d
 | [],d,_,_,_=>by simp
 | c::r,0,_,_,h2=>by
  have:=h2 i_
  simp only[getElem_cons_zero]at this;rw[takeWhile_cons,this];simp
 | c::r,d+1,hd,h1,h2=>by have h:=h1 0 i_ o_;simp only[getElem_cons_zero]at h;rw[takeWhile_cons,if_pos h,take_succ_cons];rw[rO p r d (D4 hd) (λk hk hkd=>by have:=h1 (k+1) (D4 hk) o_;simpa using this) (λhk=>by have:=h2 (D4 hk);simpa using this)]
theorem DY{α:Type}(p:α->Bool):∀(r:List α) (hk:(r.takeWhile p).length<r.length),p (r[(r.takeWhile p).length]'hk)=false
 | [],h=>absurd h i_
 | c::r,h=>by
  cases hc:p c with
  | false=>simp[takeWhile_cons,hc]
  | true=>have e:((c::r).takeWhile p).length=(r.takeWhile p).length+1:=(by simp[takeWhile_cons,hc]);have H:(r.takeWhile p).length<r.length:=(by rw[e]at h;simpa using h);have:=DY p r H;simp only[e,getElem_cons_succ];exact this
theorem DZ{α:Type}(p:α->Bool):∀(r:List α) (k:Nat) (hk:k<(r.takeWhile p).length) (hr:k<r.length),p (r[k]'hr)=true
 | [],k,h,_=>absurd h i_
 | c::r,k,h,hr=>by
  cases hc:p c with
  | false=>simp[takeWhile_cons,hc]at h
  | true=>
   cases k with
   | zero=>simpa using hc
   | succ k=>have e:((c::r).takeWhile p).length=(r.takeWhile p).length+1:=(by simp[takeWhile_cons,hc]);have:=DZ p r k o_ (D4 hr);simpa using this
end
theorem Kd{T:Nat->To}{n:Nat}{s:PS}{r:List St}{H:PS}(h:Pa T (n+1) .st s (.s r) H):
  (aJ T [105,110,116] s=true/\Pa T n (.sg (OB 1 (cW T s.ad).1)) (cW T s.ad).2 (.s r) H) \/
  (aJ T [105,102] s=true/\∃a s1 b s2,Pa T n (.pr [40] [41]) s.ad (.n a) s1/\Pa T n .bl s1 (.s b) s2 /\
   ((aJ T [101,108,115,101] s2=false/\r=⟨4,tx [],a,[],(b.length:Int),0⟩::b/\H=s2) \/
    (aJ T [101,108,115,101] s2=true/\∃c,Pa T n .bl s2.ad (.s c) H/\r=⟨4,tx [],a,[],(b.length:Int),(c.length:Int)⟩::(b++c)))) \/
  (aJ T [119,104,105,108,101] s=true/\∃a s1 b,Pa T n (.pr [40] [41]) s.ad (.n a) s1/\Pa T n .bl s1 (.s b) H/\r=⟨5,tx [],a,[],(b.length:Int),0⟩::b) \/
  (aJ T [114,101,116,117,114,110] s=true/\∃a s1,Pa T n (.e 1) s.ad (.n a) s1/\r=[⟨6,tx [],a,[],0,0⟩]/\H=fM T [59] s1) \/
  (aJ T [111,117,116] s=true/\∃a s1,Pa T n (.pr [40] [41]) s.ad (.n a) s1/\r=[⟨7,tx [],a,[],0,0⟩]/\H=fM T [59] s1) \/
  (OD T s/\(
   (aJ T [91] (cW T s).2=true/\∃a s1,Pa T n (.pr [91] [93]) (cW T s).2 (.n a) s1/\Pa T n (.sg ⟨3,(cW T s).1,a,[],0,0⟩) s1 (.s r) H) \/
   (aJ T [91] (cW T s).2=false/\aJ T [40] (cW T s).2=true/\∃a s1,Pa T n (.ar (cW T s).1) (cW T s).2 (.n a) s1/\r=[⟨8,tx [],a,[],0,0⟩]/\H=fM T [59] s1) \/
   (aJ T [91] (cW T s).2=false/\aJ T [40] (cW T s).2=false/\Pa T n (.sg (OB 2 (cW T s).1)) (cW T s).2 (.s r) H))):=by
 cases h using Pa_i with
 | sin n s r H h1 h2=>exact .inl ⟨h1,h2⟩
 | sif n s a s1 b s2 h1 h2 h3 h4=>exact .inr (.inl ⟨h1,a,s1,b,_,h2,h3,.inl ⟨h4,rfl,rfl⟩⟩)
 | sel n s a s1 b s2 c H h1 h2 h3 h4 h5=>exact .inr (.inl ⟨h1,a,s1,b,s2,h2,h3,.inr ⟨h4,c,h5,rfl⟩⟩)
 | swh n s a s1 b s2 h1 h2 h3=>exact .inr (.inr (.inl ⟨h1,a,s1,b,h2,h3,rfl⟩))
 | sre n s a H h1 h2=>exact .inr (.inr (.inr (.inl ⟨h1,a,_,h2,rfl,rfl⟩)))
 | sou n s a H h1 h2=>exact .inr (.inr (.inr (.inr (.inl ⟨h1,a,_,h2,rfl,rfl⟩))))
 | sst n s a s1 r H h1 h2 h3 h4=>exact .inr (.inr (.inr (.inr (.inr ⟨h1,.inl ⟨h2,a,s1,h3,h4⟩⟩))))
 | sca n s a H h1 h2 h3 h4=>exact .inr (.inr (.inr (.inr (.inr ⟨h1,.inr (.inl ⟨h2,h3,a,_,h4,rfl,rfl⟩)⟩))))
 | sse n s r H h1 h2 h3 h4=>exact .inr (.inr (.inr (.inr (.inr ⟨h1,.inr (.inr ⟨h2,h3,h4⟩)⟩))))
section
def iR(T:Nat->To)(s:PS):IF×PS:=cW T (fM T [105,110,116] s)
def P_(v:Int):Int:=if v=0 then -1 else v
structure TpC (T:Nat->To)(n:Nat)(s:PS)(P:Gl ⊕ Fu->PS->Prop):Prop where
 c_::
 fn:∀ps s1 b s2,aJ T [40] (iR T s).2=true->Pa T n (.pl []) (dP T [40] (iR T s).2) (.p ps) s1->Pa T n .bl (iz T [41] s1) (.s b) s2->P (.inr ⟨(iR T s).1,ps,b⟩) s2
 ga:aJ T [40] (iR T s).2=false->aJ T [91] (iR T s).2=true->P (.inl ⟨(iR T s).1,P_ (uI T (dP T [91] (iR T s).2)).1⟩) (fM T [59] (iz T [93] (uI T (dP T [91] (iR T s).2)).2))
 gv:aJ T [40] (iR T s).2=false->aJ T [91] (iR T s).2=false->P (.inl ⟨(iR T s).1,0⟩) (fM T [59] (iR T s).2)
structure Tp (T:Nat->To)(n:Nat)(s:PS)(a0:Gl ⊕ Fu)(a1:PS):Prop where
 c_::
 out:∀P,TpC T n s P->P a0 a1
theorem Tp.C{T:Nat->To}{n:Nat}{s:PS}:TpC T n s (Tp T n s):=⟨λps s1 b s2 q0 q1 q2=>⟨λP h=>h.fn ps s1 b s2 q0 q1 q2⟩,
 λq0 q1=>⟨λP h=>h.ga q0 q1⟩,
 λq0 q1=>⟨λP h=>h.gv q0 q1⟩⟩
abbrev Tp.fn{T:Nat->To}{n:Nat}(s:PS):=(Tp.C:TpC T n s _).fn
abbrev Tp.ga{T:Nat->To}{n:Nat}(s:PS):=(Tp.C:TpC T n s _).ga
abbrev Tp.gv{T:Nat->To}{n:Nat}(s:PS):=(Tp.C:TpC T n s _).gv
theorem Tp_i{T:Nat->To}{n:Nat}{s:PS}{M:∀(a0:Gl ⊕ Fu)(a1:PS),Tp T n s a0 a1->Prop}
 (fn:∀ps s1 b s2,aJ T [40] (iR T s).2=true->Pa T n (.pl []) (dP T [40] (iR T s).2) (.p ps) s1->Pa T n .bl (iz T [41] s1) (.s b) s2->∀t,M (.inr ⟨(iR T s).1,ps,b⟩) s2 t)
 (ga:aJ T [40] (iR T s).2=false->aJ T [91] (iR T s).2=true->∀t,M (.inl ⟨(iR T s).1,P_ (uI T (dP T [91] (iR T s).2)).1⟩) (fM T [59] (iz T [93] (uI T (dP T [91] (iR T s).2)).2)) t)
 (gv:aJ T [40] (iR T s).2=false->aJ T [91] (iR T s).2=false->∀t,M (.inl ⟨(iR T s).1,0⟩) (fM T [59] (iR T s).2) t)
 {a0:Gl ⊕ Fu}{a1:PS}(t:Tp T n s a0 a1):M a0 a1 t:=
 (t.out (λa0 a1=>∃z_,M a0 a1 z_) ⟨λps s1 b s2 q0 q1 q2=>⟨.fn s ps s1 b s2 q0 q1 q2,fn ps s1 b s2 q0 q1 q2 _⟩,
 λq0 q1=>⟨.ga s q0 q1,ga q0 q1 _⟩,
 λq0 q1=>⟨.gv s q0 q1,gv q0 q1 _⟩⟩).2
def h_(t:Tr):Gl ⊕ Fu->Tr
 | .inl g=>⟨t.gl++[g],t.fc⟩
 | .inr f=>⟨t.gl,t.fc++[f]⟩
structure PgC (T:Nat->To)(n:Nat)(P:PS->Tr->Tr->PS->Prop):Prop where
 c_::
 done:∀(s:PS)t,s.er≠0\/(T s.i).kd=4->P s t t s
 more:∀(s:PS)t(x:Gl ⊕ Fu)s1 t' s',s.er=0->(T s.i).kd≠4->Tp T n s x s1->P s1 (h_ t x) t' s'->P s t t' s'
structure Pg (T:Nat->To)(n:Nat)(a0:PS)(a1:Tr)(a2:Tr)(a3:PS):Prop where
 c_::
 out:∀P,PgC T n P->P a0 a1 a2 a3
theorem Pg.C{T:Nat->To}{n:Nat}:PgC T n (Pg T n):=⟨λs t q0=>⟨λP h=>h.done s t q0⟩,
 λs t x s1 t' s' q0 q1 q2 q3=>⟨λP h=>h.more s t x s1 t' s' q0 q1 q2 (q3.out P h)⟩⟩
abbrev Pg.done {T n}:=(Pg.C:PgC T n _).done
abbrev Pg.more {T n}:=(Pg.C:PgC T n _).more
theorem Pg_i{T:Nat->To}{n:Nat}{M:∀(a0:PS)(a1:Tr)(a2:Tr)(a3:PS),Pg T n a0 a1 a2 a3->Prop}
 (done:∀(s:PS)t,s.er≠0\/(T s.i).kd=4->∀u,M s t t s u)
 (more:∀(s:PS)t(x:Gl ⊕ Fu)s1 t' s',s.er=0->(T s.i).kd≠4->Tp T n s x s1->∀q3:Pg T n s1 (h_ t x) t' s',M s1 (h_ t x) t' s' q3->∀u,M s t t' s' u)
 {a0:PS}{a1:Tr}{a2:Tr}{a3:PS}(u:Pg T n a0 a1 a2 a3):M a0 a1 a2 a3 u:=
 (u.out (λa0 a1 a2 a3=>∃z_,M a0 a1 a2 a3 z_) ⟨λs t q0=>⟨.done s t q0,done s t q0 _⟩,
 λs t x s1 t' s' q0 q1 q2 q3=>⟨.more s t x s1 t' s' q0 q1 q2 q3.1,more s t x s1 t' s' q0 q1 q2 _ q3.2 _⟩⟩).2
def O1(K:Nat)(f:Fu):Prop:=f.pm.length<=6*K+7/\oy f.bd<=6*K+6
structure Mw (K:Nat) (k:Nat) (t:Tr):Prop where
 gl:t.gl.length+t.fc.length+k<=K+1
 fs:∀f∈t.fc,O1 K f
 g0:t.gl=[]
section
variable{T:Nat->To}{K:Nat}
theorem Tp.dm{n:Nat}{s:PS}{x:Gl ⊕ Fu}{I:PS}(h:Tp T n s x I):Dm T s I:=by
 have H:Dm T s (iR T s).2:=(gr _ s).trans (jZ _);cases h using Tp_i with
 | fn ps s1 b _ h1 h2 h3=>exact((H.trans (lO _ _)).trans h2.dm).trans ((dr _ _).trans h3.dm)
 | ga h1 h2=>exact(((H.trans (lO _ _)).trans (JE _)).trans (dr _ _)).trans (gr _ _)
 | gv h1 h2=>exact H.trans (gr _ _)
theorem Pg.dm{n:Nat}{s:PS}{t I:Tr}{H:PS}(h:Pg T n s t I H):Dm T s H:=by
 induction h using Pg_i with
 | done s t h=>exact Dm.refl _
 | more s t x s1 I H h0 h4 h1 h2 ih=>exact h1.dm.trans ih
theorem Pg.end4{n:Nat}{s:PS}{t I:Tr}{H:PS}(h:Pg T n s t I H):H.er≠0\/(T H.i).kd=4:=by
 induction h using Pg_i with
 | done s t h=>exact h
 | more s t x s1 I H h0 h4 h1 h2 ih=>exact ih
theorem Pg.grow{n:Nat}{s:PS}{t H:Tr}{O:PS}(h:Pg T n s t H O):(∃a,H.gl=t.gl++a)/\∃b,H.fc=t.fc++b:=by
 induction h using Pg_i with
 | done s t h=>exact⟨⟨[],i_⟩,[],i_⟩
 | more s t x s1 H O h0 h4 h1 h2 ih=>
  obtain⟨⟨a,I⟩,b,J⟩:=ih;cases x with
  | inl g=>exact⟨⟨[g]++a,by rw[I];simp[h_]⟩,b,J⟩
  | inr f=>exact⟨⟨a,I⟩,[f]++b,by rw[J];simp[h_]⟩
end
end
end Go.Proofs.YtngnoopnloojjaaGreatDoor
