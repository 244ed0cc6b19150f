import Derived.WalkSpells
import Derived.ProofKit
import Derived.Test.YtlamjfhhefcohaaGreatDoorP01
namespace Go.Proofs.YtlamjfhhefcohaaGreatDoor
set_option linter.all false
set_option maxRecDepth 100000
set_option maxHeartbeats 16000000
section
open Go.RowKit
theorem cC{a b:ByteArray}(h:a=b):Ending.returned (.string a)=.returned (.string b):=by rw[h]
def dig(m:Nat):UInt8:=UInt8.ofNat (48+m%10)
theorem s7(m:Nat):(dig m).toNat=48+m%10:=by
 unfold dig;simp only[UInt8.toNat_ofNat'];omega
def tx(l:List UInt8):ByteArray:=⟨l.toArray⟩
theorem tx_size(l:List UInt8):(tx l).size=l.length:=by simp[tx,ByteArray.size]
theorem aq(a b:List UInt8):tx a++tx b=tx (a++b):=by
 apply ByteArray.ext;simp[tx]
theorem dw(s:ByteArray):tx s.data.toList=s:=by
 apply ByteArray.ext;simp[tx]
theorem i7(s:ByteArray):s.data.toList.length=s.size:=Array.length_toList
end
section
variable{α:Type}
structure To where
 kind:Int
 text:ByteArray
 num:Int
 pl:Nat
def cI(c:UInt8):Int:=(c.toNat:Int)
def dy(c:UInt8):Bool:=decide (c=32∨c=10)
def cG(c:UInt8):Bool:=smallB (cI c)
def cJ(c:UInt8):Bool:=de (cI c)
def aO(c:UInt8):Bool:=digitB (cI c)
def numL(ds:List UInt8):Nat:=ds.foldl (fun a c=>10*a+(c.toNat-48)) 0
def ew:List (List UInt8):=[[61,61],[33,61],[60,61],[62,61],[60,60],[62,62],[38,38],[124,124]]
def fK:List UInt8:=[40,41,123,125,91,93,59,44,61,60,62,43,45,42,47,37,38,124,94,33,126]
def bD(r:List UInt8):List UInt8:=if r.take 2∈ew then r.take 2 else if r.take 1∈fK.map (fun c=>[c])then r.take 1 else[]
def bZ(r:List UInt8)(p:Nat):To×Nat:=
 match r with
 | []=>(⟨4,tx [],0,p⟩,0)
 | c::_=>
  if cG c then(if 20<(r.takeWhile cJ).length then(⟨5,tx [],0,p⟩,0)else(⟨1,tx (r.takeWhile cJ),0,p⟩,(r.takeWhile cJ).length))
  else if aO c then
   (if (c=48/\1<(r.takeWhile aO).length)∨2147483647<numL (r.takeWhile aO)∨((r.drop (r.takeWhile aO).length).head?.map cG).getD false=true then(⟨5,tx [],0,p⟩,0)
    else(⟨2,tx [],(numL (r.takeWhile aO):Int),p⟩,(r.takeWhile aO).length))
  else if bD r=[]then(⟨5,tx [],0,p⟩,0)else(⟨3,tx (bD r),0,p⟩,(bD r).length)
def fL(r:List UInt8):Nat:=(r.takeWhile dy).length
def iU(l:List UInt8)(e:Nat):To×Nat:=
 let b:=fL (l.drop e)
 let q:=bZ (l.drop (e+b)) (e+b)
 (q.1,e+b+q.2)
def cw(l:List UInt8):Nat->Nat
 | 0=>0
 | i+1=>(iU l (cw l i)).2
def ai(l:List UInt8)(i:Nat):To:=(iU l (cw l i)).1
theorem s8(r:List UInt8)(p:Nat):1<=(bZ r p).1.kind/\(bZ r p).1.kind<=5:=by
 unfold bZ;split
 ·exact⟨i_,i_⟩
 ·(repeat' split) <;> exact⟨i_,i_⟩
theorem yS(r:List UInt8)(p:Nat):(bZ r p).1.pl=p:=by
 unfold bZ;split
 ·rfl
 ·(repeat' split) <;> rfl
theorem rG(r:List UInt8)(k:Nat):(r.take k).length<=r.length:=by rw[List.length_take];omega
theorem jr(r:List UInt8):(bD r).length<=r.length/\(bD r).length<=2:=by
 unfold bD;split
 ·exact⟨rG _ _,by rw[List.length_take];omega⟩
 ·split
  ·exact⟨rG _ _,by rw[List.length_take];omega⟩
  ·simp
theorem ib{α:Type}(p:α->Bool):∀r:List α,(r.takeWhile p).length<=r.length
 | []=>by simp
 | c::r=>by
  rw[List.takeWhile_cons];split
  ·have:=ib p r;simp;omega
  ·simp
theorem qj(p:α->Bool)(c:α)(r:List α)(h:p c=true):1<=((c::r).takeWhile p).length:=by
 rw[List.takeWhile_cons,if_pos h];simp
theorem vm(r:List UInt8)(p:Nat):(bZ r p).2<=r.length/\((bZ r p).1.kind<=3->1<=(bZ r p).2):=by
 unfold bZ;split
 ·exact⟨i_,fun h=>absurd h i_⟩
 ·rename_i c r';split
  ·rename_i hf;split
   ·exact⟨i_,fun h=>absurd h i_⟩
   ·refine⟨ib _ _,fun _=>qj _ _ _ ?_⟩;unfold cJ de;rw[show smallB (cI c)=true from hf];rfl
  ·split
   ·rename_i hd;split
    ·exact⟨i_,fun h=>absurd h i_⟩
    ·exact⟨ib _ _,fun _=>qj _ _ _ hd⟩
   ·split
    ·exact⟨i_,fun h=>absurd h i_⟩
    ·rename_i hs;refine⟨(jr _).1,fun _=>?_⟩;show 1<=(bD (c::r')).length;cases h:bD (c::r')with
     | nil=>exact absurd h hs
     | cons a b=>simp
theorem kw(r:List UInt8):fL r<=r.length:=ib _ _
theorem rH(l:List UInt8)(e:Nat)(he:e<=l.length):e<=(iU l e).2/\(iU l e).2<=l.length/\((iU l e).1.kind<=3->e<(iU l e).2):=by
 have h1:=kw (l.drop e);rw[List.length_drop]at h1;have h2:=vm (l.drop (e+fL (l.drop e))) (e+fL (l.drop e));rw[List.length_drop]at h2;unfold iU;dsimp only;refine⟨o_,o_,fun h=>?_⟩;have:=h2.2 h;omega
theorem iE(l:List UInt8):∀i,cw l i<=l.length
 | 0=>y_
 | i+1=>(rH l _ (iE l i)).2.1
theorem yT(l:List UInt8)(i:Nat)(h:(ai l i).kind<=3):cw l i<cw l (i+1):=(rH l _ (iE l i)).2.2 h
theorem mZ(l:List UInt8):∀k,(∀i,i<k->(ai l i).kind<=3)->k<=cw l k
 | 0,_=>y_
 | k+1,h=>by
  have h1:=mZ l k (fun i hi=>h i o_);have h2:=yT l k (h k o_);omega
theorem vo(l:List UInt8):∃K,K<=l.length/\4<=(ai l K).kind/\∀i,i<K->(ai l i).kind<=3:=by
 have Ja:∀n,(∃K,K<=n/\4<=(ai l K).kind/\∀i,i<K->(ai l i).kind<=3)∨∀i,i<=n->(ai l i).kind<=3:=by
  intro n;induction n with
  | zero=>
   by_cases h:4<=(ai l 0).kind
   ·exact .inl ⟨0,n_,h,fun i hi=>by omega⟩
   ·exact .inr fun i hi=>by
     obtain rfl:i=0:=by omega
     omega
  | succ n ih=>
   rcases ih with⟨K,h1,h2⟩|h
   ·exact .inl ⟨K,o_,h2⟩
   ·by_cases h4:4<=(ai l (n+1)).kind
    ·exact .inl ⟨n+1,n_,h4,fun i hi=>h i o_⟩
    ·refine .inr fun i hi=>?_;by_cases e:i=n+1
     ·subst e;omega
     ·exact h i o_
 rcases Ja l.length with h|h
 ·exact h
 ·have h1:=mZ l (l.length+1) (fun i hi=>h i o_);have h2:=iE l (l.length+1);omega
theorem dE(l:List UInt8)(i:Nat):1<=(ai l i).kind/\(ai l i).kind<=5:=s8 _ _
end
structure PS where
 i:Nat
 op:Int
 er:Int
 pl:Int
def PS.ad(s:PS):PS:= {s with i:=s.i+1}
def yO(t:To):Bool:=decide (t.kind=1∨t.kind=3)
def h_(T:Nat->To)(c:Int)(s:PS):PS:=if s.er=0 then {s with er:=if (T s.i).kind=5 then 2 else c,pl:=((T s.i).pl:Int)} else s
def aC(T:Nat->To)(x:List UInt8)(s:PS):Bool:=decide (s.er=0)&&yO (T s.i)&&decide ((T s.i).text=tx x)
def bq(T:Nat->To)(x:List UInt8)(s:PS):PS:=if aC T x s=true then s.ad else h_ T 3 s
def bA(T:Nat->To)(x:List UInt8)(s:PS):PS:=
 let s1:=bq T x (if aC T x s=true/\s.op=30 then h_ T 4 s else s)
 {s1 with op:=s1.op+1}
def cO(T:Nat->To)(x:List UInt8)(s:PS):PS:= {bq T x s with op:=(bq T x s).op-1}
def vq(T:Nat->To)(s:PS):Bool:=decide (s.er=0)&&decide ((T s.i).kind=1) && !dZ (T s.i).text
def aS(T:Nat->To)(s:PS):ByteArray×PS:=if vq T s=true then((T s.i).text,s.ad)else(tx [],h_ T 3 s)
def fZ(T:Nat->To)(s:PS):Int×PS:=if s.er=0/\(T s.i).kind=2 then((T s.i).num,s.ad)else(0,h_ T 3 s)
def fq:List (List UInt8×Nd×Int):=[([124,124],⟨9,0,tx []⟩,1),([38,38],⟨8,0,tx []⟩,2),([42],⟨7,0,tx []⟩,10),([47],⟨7,1,tx []⟩,10),([37],⟨7,2,tx []⟩,10),([43],⟨7,3,tx []⟩,9),([45],⟨7,4,tx []⟩,9),([60,60],⟨7,5,tx []⟩,8),([62,62],⟨7,6,tx []⟩,8),([60],⟨7,7,tx []⟩,7),([60,61],⟨7,8,tx []⟩,7),([62],⟨7,9,tx []⟩,7),([62,61],⟨7,10,tx []⟩,7),([61,61],⟨7,11,tx []⟩,6),([33,61],⟨7,12,tx []⟩,6),([38],⟨7,13,tx []⟩,5),([94],⟨7,14,tx []⟩,4),([124],⟨7,15,tx []⟩,3)]
def gi(T:Nat->To)(s:PS):Option (List UInt8×Nd×Int):=fq.find? (fun o=>aC T o.1 s)
def dN:List (List UInt8):=[[45],[33],[126]]
structure Dy (T:Nat->To) (s:PS):Prop where
 un:∀x∈dN,aC T x s=false
 par:aC T [40] s=false
 inn:aC T [105,110] s=false
 num:¬(s.er=0/\(T s.i).kind=2)
abbrev PT : Type := Int ⊕ (Int × (List Nd)) ⊕ Unit ⊕ ((List UInt8) × (List UInt8)) ⊕ ByteArray ⊕ (Int × (List Nd)) ⊕ Unit ⊕ (List St) ⊕ St ⊕ Unit ⊕ (List ByteArray)
abbrev PT.e (least : Int) : PT := .inl least
abbrev PT.lp (least : Int) (out : List Nd) : PT := .inr (.inl (least, out))
abbrev PT.o : PT := .inr (.inr (.inl ()))
abbrev PT.pr (a : List UInt8) (b : List UInt8) : PT := .inr (.inr (.inr (.inl (a, b))))
abbrev PT.ar (x : ByteArray) : PT := .inr (.inr (.inr (.inr (.inl x))))
abbrev PT.al (k : Int) (out : List Nd) : PT := .inr (.inr (.inr (.inr (.inr (.inl (k, out))))))
abbrev PT.bl : PT := .inr (.inr (.inr (.inr (.inr (.inr (.inl ()))))))
abbrev PT.bs (out : List St) : PT := .inr (.inr (.inr (.inr (.inr (.inr (.inr (.inl out)))))))
abbrev PT.sg (s : St) : PT := .inr (.inr (.inr (.inr (.inr (.inr (.inr (.inr (.inl s))))))))
abbrev PT.st : PT := .inr (.inr (.inr (.inr (.inr (.inr (.inr (.inr (.inr (.inl ())))))))))
abbrev PT.pl (out : List ByteArray) : PT := .inr (.inr (.inr (.inr (.inr (.inr (.inr (.inr (.inr (.inr out)))))))))
theorem PT.cs {motive : PT → Prop} (e : ∀ (least : Int), motive (PT.e least)) (lp : ∀ (least : Int) (out : List Nd), motive (PT.lp least out)) (o : motive (PT.o)) (pr : ∀ (a : List UInt8) (b : List UInt8), motive (PT.pr a b)) (ar : ∀ (x : ByteArray), motive (PT.ar x)) (al : ∀ (k : Int) (out : List Nd), motive (PT.al k out)) (bl : motive (PT.bl)) (bs : ∀ (out : List St), motive (PT.bs out)) (sg : ∀ (s : St), motive (PT.sg s)) (st : motive (PT.st)) (pl : ∀ (out : List ByteArray), motive (PT.pl out)) (t_ : PT) : motive t_ :=
  match t_ with
  | .inl x0_ => e x0_
  | .inr (.inl (x0_, x1_)) => lp x0_ x1_
  | .inr (.inr (.inl ())) => o
  | .inr (.inr (.inr (.inl (x0_, x1_)))) => pr x0_ x1_
  | .inr (.inr (.inr (.inr (.inl x0_)))) => ar x0_
  | .inr (.inr (.inr (.inr (.inr (.inl (x0_, x1_)))))) => al x0_ x1_
  | .inr (.inr (.inr (.inr (.inr (.inr (.inl ())))))) => bl
  | .inr (.inr (.inr (.inr (.inr (.inr (.inr (.inl x0_))))))) => bs x0_
  | .inr (.inr (.inr (.inr (.inr (.inr (.inr (.inr (.inl x0_)))))))) => sg x0_
  | .inr (.inr (.inr (.inr (.inr (.inr (.inr (.inr (.inr (.inl ()))))))))) => st
  | .inr (.inr (.inr (.inr (.inr (.inr (.inr (.inr (.inr (.inr x0_))))))))) => pl x0_
abbrev PR : Type := (List Nd) ⊕ ((List Nd) × Int) ⊕ (List St) ⊕ (List ByteArray)
abbrev PR.n (l : List Nd) : PR := .inl l
abbrev PR.a (l : List Nd) (k : Int) : PR := .inr (.inl (l, k))
abbrev PR.s (l : List St) : PR := .inr (.inr (.inl l))
abbrev PR.p (l : List ByteArray) : PR := .inr (.inr (.inr l))
theorem PR.cs {motive : PR → Prop} (n : ∀ (l : List Nd), motive (PR.n l)) (a : ∀ (l : List Nd) (k : Int), motive (PR.a l k)) (s : ∀ (l : List St), motive (PR.s l)) (p : ∀ (l : List ByteArray), motive (PR.p l)) (t_ : PR) : motive t_ :=
  match t_ with
  | .inl x0_ => n x0_
  | .inr (.inl (x0_, x1_)) => a x0_ x1_
  | .inr (.inr (.inl x0_)) => s x0_
  | .inr (.inr (.inr x0_)) => p x0_
def st0(k:Int)(x:ByteArray):St:=⟨k,x,[],[],0,0⟩
def i8(t:St)(e:List Nd):St:=if t.kind=3 then {t with f:=e} else {t with e:=e}
structure vr (T:Nat->To) (s:PS):Prop where
 int:aC T [105,110,116] s=false
 fi:aC T [105,102] s=false
 wh:aC T [119,104,105,108,101] s=false
 re:aC T [114,101,116,117,114,110] s=false
 ou:aC T [111,117,116] s=false
structure PaC (T:Nat->To)(P:Nat→PT→PS→PR→PS→Prop):Prop where
 c_::
 ex(n:Nat)(m:Int)(s:PS)(a:List Nd)(s1:PS)(r:PR)(s':PS):P n .o s (.n a) s1→P n (.lp m a) s1 r s'→P (n+1) (.e m) s r s'
 lpd(n:Nat)(m:Int)(o:List Nd)(s:PS):(s.er≠0)→P (n+1) (.lp m o) s (.n o) s
 lps(n:Nat)(m:Int)(o:List Nd)(s:PS):(s.er=0)→(∀x,gi T s=some x->x.2.2<m)→P (n+1) (.lp m o) s (.n o) s
 lpm(n:Nat)(m:Int)(o:List Nd)(s:PS)(x:List UInt8×Nd×Int)(a:List Nd)(s1:PS)(r:PR)(s':PS):(s.er=0)→(gi T s=some x)→(m<=x.2.2)→P n (.e (x.2.2+1)) s.ad (.n a) s1→P n (.lp m (o++a++[x.2.1])) s1 r s'→P (n+1) (.lp m o) s r s'
 oun(n:Nat)(k:Nat)(hk:k<3)(s:PS)(a:List Nd)(s':PS):(aC T (dN[k]'hk) s=true)→((bA T (dN[k]'hk) s).er=0)→P n .o (bA T (dN[k]'hk) s) (.n a) s'→P (n+1) .o s (.n (a++[⟨6,(k:Int),tx []⟩])) {s' with op:=s'.op-1}
 oud(n:Nat)(k:Nat)(hk:k<3)(s:PS):(aC T (dN[k]'hk) s=true)→((bA T (dN[k]'hk) s).er≠0)→P (n+1) .o s (.n [⟨6,(k:Int),tx []⟩]) {bA T (dN[k]'hk) s with op:=(bA T (dN[k]'hk) s).op-1}
 prd(n:Nat)(x y:List UInt8)(s:PS):((bA T x s).er≠0)→P (n+1) (.pr x y) s (.n []) (cO T y (bA T x s))
 pre(n:Nat)(x y:List UInt8)(s:PS)(a:List Nd)(s':PS):((bA T x s).er=0)→P n (.e 1) (bA T x s) (.n a) s'→P (n+1) (.pr x y) s (.n a) (cO T y s')
 opa(n:Nat)(s:PS)(r:PR)(s':PS):(aC T [40] s=true)→P n (.pr [40] [41]) s r s'→P (n+1) .o s r s'
 oin(n:Nat)(s:PS):(aC T [105,110] s=true)→P (n+1) .o s (.n [⟨5,0,tx []⟩]) (cO T [41] (bA T [40] s.ad))
 onu(n:Nat)(s:PS):(s.er=0)→((T s.i).kind=2)→P (n+1) .o s (.n [⟨1,(T s.i).num,tx []⟩]) s.ad
 oix(n:Nat)(s:PS)(a:List Nd)(s':PS):Dy T s→(aC T [91] (aS T s).2=true)→P n (.pr [91] [93]) (aS T s).2 (.n a) s'→P (n+1) .o s (.n (a++[⟨3,0,(aS T s).1⟩])) s'
 oca(n:Nat)(s:PS)(r:PR)(s':PS):Dy T s→(aC T [91] (aS T s).2=false)→(aC T [40] (aS T s).2=true)→P n (.ar (aS T s).1) (aS T s).2 r s'→P (n+1) .o s r s'
 ova(n:Nat)(s:PS):Dy T s→(aC T [91] (aS T s).2=false)→(aC T [40] (aS T s).2=false)→P (n+1) .o s (.n [⟨2,0,(aS T s).1⟩]) (aS T s).2
 arg(n:Nat)(x:ByteArray)(s:PS)(a:List Nd)(k:Int)(s':PS):P n (.al 0 []) (bA T [40] s) (.a a k) s'→P (n+1) (.ar x) s (.n (a++[⟨4,k,x⟩])) (cO T [41] s')
 ald(n:Nat)(k:Int)(o:List Nd)(s:PS):(s.er≠0)→P (n+1) (.al k o) s (.a o k) s
 al0(n:Nat)(k:Int)(o:List Nd)(s:PS):(s.er=0)→(¬0<k)→(aC T [41] s=true)→P (n+1) (.al k o) s (.a o k) s
 ale(n:Nat)(k:Int)(o:List Nd)(s:PS)(a:List Nd)(s':PS):(s.er=0)→(0<k∨aC T [41] s=false)→P n (.e 1) s (.n a) s'→(aC T [44] s'=false)→P (n+1) (.al k o) s (.a (o++a) (k+1)) s'
 alm(n:Nat)(k:Int)(o:List Nd)(s:PS)(a:List Nd)(s1:PS)(r:PR)(s':PS):(s.er=0)→(0<k∨aC T [41] s=false)→P n (.e 1) s (.n a) s1→(aC T [44] s1=true)→P n (.al (k+1) (o++a)) s1.ad r s'→P (n+1) (.al k o) s r s'
 blk(n:Nat)(s:PS)(a:List St)(s':PS):P n (.bs []) (bA T [123] s) (.s a) s'→P (n+1) .bl s (.s a) (cO T [125] s')
 bsd(n:Nat)(o:List St)(s:PS):(s.er≠0∨aC T [125] s=true)→P (n+1) (.bs o) s (.s o) s
 bsm(n:Nat)(o:List St)(s:PS)(a:List St)(s1:PS)(r:PR)(s':PS):(s.er=0)→(aC T [125] s=false)→P n .st s (.s a) s1→P n (.bs (o++a)) s1 r s'→P (n+1) (.bs o) s r s'
 sgd(n:Nat)(t:St)(s:PS):((bq T [61] s).er≠0)→P (n+1) (.sg t) s (.s [i8 t []]) (bq T [59] (bq T [61] s))
 sge(n:Nat)(t:St)(s:PS)(a:List Nd)(s':PS):((bq T [61] s).er=0)→P n (.e 1) (bq T [61] s) (.n a) s'→P (n+1) (.sg t) s (.s [i8 t a]) (bq T [59] s')
 sin(n:Nat)(s:PS)(r:PR)(s':PS):(aC T [105,110,116] s=true)→P n (.sg (st0 1 (aS T s.ad).1)) (aS T s.ad).2 r s'→P (n+1) .st s r s'
 sif(n:Nat)(s:PS)(a:List Nd)(s1:PS)(b:List St)(s2:PS):(aC T [105,102] s=true)→P n (.pr [40] [41]) s.ad (.n a) s1→P n .bl s1 (.s b) s2→(aC T [101,108,115,101] s2=false)→P (n+1) .st s (.s (⟨4,tx [],a,[],(b.length:Int),0⟩::b)) s2
 sel(n:Nat)(s:PS)(a:List Nd)(s1:PS)(b:List St)(s2:PS)(c:List St)(s':PS):(aC T [105,102] s=true)→P n (.pr [40] [41]) s.ad (.n a) s1→P n .bl s1 (.s b) s2→(aC T [101,108,115,101] s2=true)→P n .bl s2.ad (.s c) s'→P (n+1) .st s (.s (⟨4,tx [],a,[],(b.length:Int),(c.length:Int)⟩::(b++c))) s'
 swh(n:Nat)(s:PS)(a:List Nd)(s1:PS)(b:List St)(s2:PS):(aC T [119,104,105,108,101] s=true)→P n (.pr [40] [41]) s.ad (.n a) s1→P n .bl s1 (.s b) s2→P (n+1) .st s (.s (⟨5,tx [],a,[],(b.length:Int),0⟩::b)) s2
 sre(n:Nat)(s:PS)(a:List Nd)(s':PS):(aC T [114,101,116,117,114,110] s=true)→P n (.e 1) s.ad (.n a) s'→P (n+1) .st s (.s [⟨6,tx [],a,[],0,0⟩]) (bq T [59] s')
 sou(n:Nat)(s:PS)(a:List Nd)(s':PS):(aC T [111,117,116] s=true)→P n (.pr [40] [41]) s.ad (.n a) s'→P (n+1) .st s (.s [⟨7,tx [],a,[],0,0⟩]) (bq T [59] s')
 sst(n:Nat)(s:PS)(a:List Nd)(s1:PS)(r:PR)(s':PS):vr T s→(aC T [91] (aS T s).2=true)→P n (.pr [91] [93]) (aS T s).2 (.n a) s1→P n (.sg ⟨3,(aS T s).1,a,[],0,0⟩) s1 r s'→P (n+1) .st s r s'
 sca(n:Nat)(s:PS)(a:List Nd)(s':PS):vr T s→(aC T [91] (aS T s).2=false)→(aC T [40] (aS T s).2=true)→P n (.ar (aS T s).1) (aS T s).2 (.n a) s'→P (n+1) .st s (.s [⟨8,tx [],a,[],0,0⟩]) (bq T [59] s')
 sse(n:Nat)(s:PS)(r:PR)(s':PS):vr T s→(aC T [91] (aS T s).2=false)→(aC T [40] (aS T s).2=false)→P n (.sg (st0 2 (aS T s).1)) (aS T s).2 r s'→P (n+1) .st s r s'
 pld(n:Nat)(o:List ByteArray)(s:PS):(s.er≠0∨(o=[]/\aC T [41] s=true))→P (n+1) (.pl o) s (.p o) s
 ple(n:Nat)(o:List ByteArray)(s:PS):(s.er=0)→(o≠[]∨aC T [41] s=false)→(aC T [44] (aS T (bq T [105,110,116] s)).2=false)→P (n+1) (.pl o) s (.p (o++[(aS T (bq T [105,110,116] s)).1])) (aS T (bq T [105,110,116] s)).2
 plm(n:Nat)(o:List ByteArray)(s:PS)(r:PR)(s':PS):(s.er=0)→(o≠[]∨aC T [41] s=false)→(aC T [44] (aS T (bq T [105,110,116] s)).2=true)→P n (.pl (o++[(aS T (bq T [105,110,116] s)).1])) (aS T (bq T [105,110,116] s)).2.ad r s'→P (n+1) (.pl o) s r s'
structure Pa (T:Nat->To)(a0:Nat)(a1:PT)(a2:PS)(a3:PR)(a4:PS):Prop where
 c_::
 out:∀P,PaC T P→P a0 a1 a2 a3 a4
theorem Pa.C{T:Nat->To}:PaC T (Pa T):=⟨fun n m s a s1 r s' q0 q1=>⟨fun P h=>h.ex n m s a s1 r s' (q0.out P h) (q1.out P h)⟩,
 fun n m o s q0=>⟨fun P h=>h.lpd n m o s q0⟩,
 fun n m o s q0 q1=>⟨fun P h=>h.lps n m o s q0 q1⟩,
 fun n m o s x a s1 r s' q0 q1 q2 q3 q4=>⟨fun P h=>h.lpm n m o s x a s1 r s' q0 q1 q2 (q3.out P h) (q4.out P h)⟩,
 fun n k hk s a s' q0 q1 q2=>⟨fun P h=>h.oun n k hk s a s' q0 q1 (q2.out P h)⟩,
 fun n k hk s q0 q1=>⟨fun P h=>h.oud n k hk s q0 q1⟩,
 fun n x y s q0=>⟨fun P h=>h.prd n x y s q0⟩,
 fun n x y s a s' q0 q1=>⟨fun P h=>h.pre n x y s a s' q0 (q1.out P h)⟩,
 fun n s r s' q0 q1=>⟨fun P h=>h.opa n s r s' q0 (q1.out P h)⟩,
 fun n s q0=>⟨fun P h=>h.oin n s q0⟩,
 fun n s q0 q1=>⟨fun P h=>h.onu n s q0 q1⟩,
 fun n s a s' q0 q1 q2=>⟨fun P h=>h.oix n s a s' q0 q1 (q2.out P h)⟩,
 fun n s r s' q0 q1 q2 q3=>⟨fun P h=>h.oca n s r s' q0 q1 q2 (q3.out P h)⟩,
 fun n s q0 q1 q2=>⟨fun P h=>h.ova n s q0 q1 q2⟩,
 fun n x s a k s' q0=>⟨fun P h=>h.arg n x s a k s' (q0.out P h)⟩,
 fun n k o s q0=>⟨fun P h=>h.ald n k o s q0⟩,
 fun n k o s q0 q1 q2=>⟨fun P h=>h.al0 n k o s q0 q1 q2⟩,
 fun n k o s a s' q0 q1 q2 q3=>⟨fun P h=>h.ale n k o s a s' q0 q1 (q2.out P h) q3⟩,
 fun n k o s a s1 r s' q0 q1 q2 q3 q4=>⟨fun P h=>h.alm n k o s a s1 r s' q0 q1 (q2.out P h) q3 (q4.out P h)⟩,
 fun n s a s' q0=>⟨fun P h=>h.blk n s a s' (q0.out P h)⟩,
 fun n o s q0=>⟨fun P h=>h.bsd n o s q0⟩,
 fun n o s a s1 r s' q0 q1 q2 q3=>⟨fun P h=>h.bsm n o s a s1 r s' q0 q1 (q2.out P h) (q3.out P h)⟩,
 fun n t s q0=>⟨fun P h=>h.sgd n t s q0⟩,
 fun n t s a s' q0 q1=>⟨fun P h=>h.sge n t s a s' q0 (q1.out P h)⟩,
 fun n s r s' q0 q1=>⟨fun P h=>h.sin n s r s' q0 (q1.out P h)⟩,
 fun n s a s1 b s2 q0 q1 q2 q3=>⟨fun P h=>h.sif n s a s1 b s2 q0 (q1.out P h) (q2.out P h) q3⟩,
 fun n s a s1 b s2 c s' q0 q1 q2 q3 q4=>⟨fun P h=>h.sel n s a s1 b s2 c s' q0 (q1.out P h) (q2.out P h) q3 (q4.out P h)⟩,
 fun n s a s1 b s2 q0 q1 q2=>⟨fun P h=>h.swh n s a s1 b s2 q0 (q1.out P h) (q2.out P h)⟩,
 fun n s a s' q0 q1=>⟨fun P h=>h.sre n s a s' q0 (q1.out P h)⟩,
 fun n s a s' q0 q1=>⟨fun P h=>h.sou n s a s' q0 (q1.out P h)⟩,
 fun n s a s1 r s' q0 q1 q2 q3=>⟨fun P h=>h.sst n s a s1 r s' q0 q1 (q2.out P h) (q3.out P h)⟩,
 fun n s a s' q0 q1 q2 q3=>⟨fun P h=>h.sca n s a s' q0 q1 q2 (q3.out P h)⟩,
 fun n s r s' q0 q1 q2 q3=>⟨fun P h=>h.sse n s r s' q0 q1 q2 (q3.out P h)⟩,
 fun n o s q0=>⟨fun P h=>h.pld n o s q0⟩,
 fun n o s q0 q1 q2=>⟨fun P h=>h.ple n o s q0 q1 q2⟩,
 fun n o s r s' q0 q1 q2 q3=>⟨fun P h=>h.plm n o s r s' q0 q1 q2 (q3.out P h)⟩⟩
abbrev Pa.ex {T}:=(Pa.C:PaC T _).ex
abbrev Pa.lpd {T}:=(Pa.C:PaC T _).lpd
abbrev Pa.lps {T}:=(Pa.C:PaC T _).lps
abbrev Pa.lpm {T}:=(Pa.C:PaC T _).lpm
abbrev Pa.oun {T}:=(Pa.C:PaC T _).oun
abbrev Pa.oud {T}:=(Pa.C:PaC T _).oud
abbrev Pa.prd {T}:=(Pa.C:PaC T _).prd
abbrev Pa.pre {T}:=(Pa.C:PaC T _).pre
abbrev Pa.opa {T}:=(Pa.C:PaC T _).opa
abbrev Pa.oin {T}:=(Pa.C:PaC T _).oin
abbrev Pa.onu {T}:=(Pa.C:PaC T _).onu
abbrev Pa.oix {T}:=(Pa.C:PaC T _).oix
abbrev Pa.oca {T}:=(Pa.C:PaC T _).oca
abbrev Pa.ova {T}:=(Pa.C:PaC T _).ova
abbrev Pa.arg {T}:=(Pa.C:PaC T _).arg
abbrev Pa.ald {T}:=(Pa.C:PaC T _).ald
abbrev Pa.al0 {T}:=(Pa.C:PaC T _).al0
abbrev Pa.ale {T}:=(Pa.C:PaC T _).ale
abbrev Pa.alm {T}:=(Pa.C:PaC T _).alm
abbrev Pa.blk {T}:=(Pa.C:PaC T _).blk
abbrev Pa.bsd {T}:=(Pa.C:PaC T _).bsd
abbrev Pa.bsm {T}:=(Pa.C:PaC T _).bsm
abbrev Pa.sgd {T}:=(Pa.C:PaC T _).sgd
abbrev Pa.sge {T}:=(Pa.C:PaC T _).sge
abbrev Pa.sin {T}:=(Pa.C:PaC T _).sin
abbrev Pa.sif {T}:=(Pa.C:PaC T _).sif
abbrev Pa.sel {T}:=(Pa.C:PaC T _).sel
abbrev Pa.swh {T}:=(Pa.C:PaC T _).swh
abbrev Pa.sre {T}:=(Pa.C:PaC T _).sre
abbrev Pa.sou {T}:=(Pa.C:PaC T _).sou
abbrev Pa.sst {T}:=(Pa.C:PaC T _).sst
abbrev Pa.sca {T}:=(Pa.C:PaC T _).sca
abbrev Pa.sse {T}:=(Pa.C:PaC T _).sse
abbrev Pa.pld {T}:=(Pa.C:PaC T _).pld
abbrev Pa.ple {T}:=(Pa.C:PaC T _).ple
abbrev Pa.plm {T}:=(Pa.C:PaC T _).plm
theorem Pa_i{T:Nat->To}{M:∀(a0:Nat)(a1:PT)(a2:PS)(a3:PR)(a4:PS),Pa T a0 a1 a2 a3 a4→Prop}
 (ex:∀(n:Nat)(m:Int)(s:PS)(a:List Nd)(s1:PS)(r:PR)(s':PS),∀q0:Pa T n .o s (.n a) s1,∀q1:Pa T n (.lp m a) s1 r s',M n .o s (.n a) s1 q0→M n (.lp m a) s1 r s' q1→∀u,M (n+1) (.e m) s r s' u)
 (lpd:∀(n:Nat)(m:Int)(o:List Nd)(s:PS),(s.er≠0)→∀u,M (n+1) (.lp m o) s (.n o) s u)
 (lps:∀(n:Nat)(m:Int)(o:List Nd)(s:PS),(s.er=0)→(∀x,gi T s=some x->x.2.2<m)→∀u,M (n+1) (.lp m o) s (.n o) s u)
 (lpm:∀(n:Nat)(m:Int)(o:List Nd)(s:PS)(x:List UInt8×Nd×Int)(a:List Nd)(s1:PS)(r:PR)(s':PS),(s.er=0)→(gi T s=some x)→(m<=x.2.2)→∀q3:Pa T n (.e (x.2.2+1)) s.ad (.n a) s1,∀q4:Pa T n (.lp m (o++a++[x.2.1])) s1 r s',M n (.e (x.2.2+1)) s.ad (.n a) s1 q3→M n (.lp m (o++a++[x.2.1])) s1 r s' q4→∀u,M (n+1) (.lp m o) s r s' u)
 (oun:∀(n:Nat)(k:Nat)(hk:k<3)(s:PS)(a:List Nd)(s':PS),(aC T (dN[k]'hk) s=true)→((bA T (dN[k]'hk) s).er=0)→∀q2:Pa T n .o (bA T (dN[k]'hk) s) (.n a) s',M n .o (bA T (dN[k]'hk) s) (.n a) s' q2→∀u,M (n+1) .o s (.n (a++[⟨6,(k:Int),tx []⟩])) {s' with op:=s'.op-1} u)
 (oud:∀(n:Nat)(k:Nat)(hk:k<3)(s:PS),(aC T (dN[k]'hk) s=true)→((bA T (dN[k]'hk) s).er≠0)→∀u,M (n+1) .o s (.n [⟨6,(k:Int),tx []⟩]) {bA T (dN[k]'hk) s with op:=(bA T (dN[k]'hk) s).op-1} u)
 (prd:∀(n:Nat)(x y:List UInt8)(s:PS),((bA T x s).er≠0)→∀u,M (n+1) (.pr x y) s (.n []) (cO T y (bA T x s)) u)
 (pre:∀(n:Nat)(x y:List UInt8)(s:PS)(a:List Nd)(s':PS),((bA T x s).er=0)→∀q1:Pa T n (.e 1) (bA T x s) (.n a) s',M n (.e 1) (bA T x s) (.n a) s' q1→∀u,M (n+1) (.pr x y) s (.n a) (cO T y s') u)
 (opa:∀(n:Nat)(s:PS)(r:PR)(s':PS),(aC T [40] s=true)→∀q1:Pa T n (.pr [40] [41]) s r s',M n (.pr [40] [41]) s r s' q1→∀u,M (n+1) .o s r s' u)
 (oin:∀(n:Nat)(s:PS),(aC T [105,110] s=true)→∀u,M (n+1) .o s (.n [⟨5,0,tx []⟩]) (cO T [41] (bA T [40] s.ad)) u)
 (onu:∀(n:Nat)(s:PS),(s.er=0)→((T s.i).kind=2)→∀u,M (n+1) .o s (.n [⟨1,(T s.i).num,tx []⟩]) s.ad u)
 (oix:∀(n:Nat)(s:PS)(a:List Nd)(s':PS),Dy T s→(aC T [91] (aS T s).2=true)→∀q2:Pa T n (.pr [91] [93]) (aS T s).2 (.n a) s',M n (.pr [91] [93]) (aS T s).2 (.n a) s' q2→∀u,M (n+1) .o s (.n (a++[⟨3,0,(aS T s).1⟩])) s' u)
 (oca:∀(n:Nat)(s:PS)(r:PR)(s':PS),Dy T s→(aC T [91] (aS T s).2=false)→(aC T [40] (aS T s).2=true)→∀q3:Pa T n (.ar (aS T s).1) (aS T s).2 r s',M n (.ar (aS T s).1) (aS T s).2 r s' q3→∀u,M (n+1) .o s r s' u)
 (ova:∀(n:Nat)(s:PS),Dy T s→(aC T [91] (aS T s).2=false)→(aC T [40] (aS T s).2=false)→∀u,M (n+1) .o s (.n [⟨2,0,(aS T s).1⟩]) (aS T s).2 u)
 (arg:∀(n:Nat)(x:ByteArray)(s:PS)(a:List Nd)(k:Int)(s':PS),∀q0:Pa T n (.al 0 []) (bA T [40] s) (.a a k) s',M n (.al 0 []) (bA T [40] s) (.a a k) s' q0→∀u,M (n+1) (.ar x) s (.n (a++[⟨4,k,x⟩])) (cO T [41] s') u)
 (ald:∀(n:Nat)(k:Int)(o:List Nd)(s:PS),(s.er≠0)→∀u,M (n+1) (.al k o) s (.a o k) s u)
 (al0:∀(n:Nat)(k:Int)(o:List Nd)(s:PS),(s.er=0)→(¬0<k)→(aC T [41] s=true)→∀u,M (n+1) (.al k o) s (.a o k) s u)
 (ale:∀(n:Nat)(k:Int)(o:List Nd)(s:PS)(a:List Nd)(s':PS),(s.er=0)→(0<k∨aC T [41] s=false)→∀q2:Pa T n (.e 1) s (.n a) s',(aC T [44] s'=false)→M n (.e 1) s (.n a) s' q2→∀u,M (n+1) (.al k o) s (.a (o++a) (k+1)) s' u)
 (alm:∀(n:Nat)(k:Int)(o:List Nd)(s:PS)(a:List Nd)(s1:PS)(r:PR)(s':PS),(s.er=0)→(0<k∨aC T [41] s=false)→∀q2:Pa T n (.e 1) s (.n a) s1,(aC T [44] s1=true)→∀q4:Pa T n (.al (k+1) (o++a)) s1.ad r s',M n (.e 1) s (.n a) s1 q2→M n (.al (k+1) (o++a)) s1.ad r s' q4→∀u,M (n+1) (.al k o) s r s' u)
 (blk:∀(n:Nat)(s:PS)(a:List St)(s':PS),∀q0:Pa T n (.bs []) (bA T [123] s) (.s a) s',M n (.bs []) (bA T [123] s) (.s a) s' q0→∀u,M (n+1) .bl s (.s a) (cO T [125] s') u)
 (bsd:∀(n:Nat)(o:List St)(s:PS),(s.er≠0∨aC T [125] s=true)→∀u,M (n+1) (.bs o) s (.s o) s u)
 (bsm:∀(n:Nat)(o:List St)(s:PS)(a:List St)(s1:PS)(r:PR)(s':PS),(s.er=0)→(aC T [125] s=false)→∀q2:Pa T n .st s (.s a) s1,∀q3:Pa T n (.bs (o++a)) s1 r s',M n .st s (.s a) s1 q2→M n (.bs (o++a)) s1 r s' q3→∀u,M (n+1) (.bs o) s r s' u)
 (sgd:∀(n:Nat)(t:St)(s:PS),((bq T [61] s).er≠0)→∀u,M (n+1) (.sg t) s (.s [i8 t []]) (bq T [59] (bq T [61] s)) u)
 (sge:∀(n:Nat)(t:St)(s:PS)(a:List Nd)(s':PS),((bq T [61] s).er=0)→∀q1:Pa T n (.e 1) (bq T [61] s) (.n a) s',M n (.e 1) (bq T [61] s) (.n a) s' q1→∀u,M (n+1) (.sg t) s (.s [i8 t a]) (bq T [59] s') u)
 (sin:∀(n:Nat)(s:PS)(r:PR)(s':PS),(aC T [105,110,116] s=true)→∀q1:Pa T n (.sg (st0 1 (aS T s.ad).1)) (aS T s.ad).2 r s',M n (.sg (st0 1 (aS T s.ad).1)) (aS T s.ad).2 r s' q1→∀u,M (n+1) .st s r s' u)
 (sif:∀(n:Nat)(s:PS)(a:List Nd)(s1:PS)(b:List St)(s2:PS),(aC T [105,102] s=true)→∀q1:Pa T n (.pr [40] [41]) s.ad (.n a) s1,∀q2:Pa T n .bl s1 (.s b) s2,(aC T [101,108,115,101] s2=false)→M n (.pr [40] [41]) s.ad (.n a) s1 q1→M n .bl s1 (.s b) s2 q2→∀u,M (n+1) .st s (.s (⟨4,tx [],a,[],(b.length:Int),0⟩::b)) s2 u)
 (sel:∀(n:Nat)(s:PS)(a:List Nd)(s1:PS)(b:List St)(s2:PS)(c:List St)(s':PS),(aC T [105,102] s=true)→∀q1:Pa T n (.pr [40] [41]) s.ad (.n a) s1,∀q2:Pa T n .bl s1 (.s b) s2,(aC T [101,108,115,101] s2=true)→∀q4:Pa T n .bl s2.ad (.s c) s',M n (.pr [40] [41]) s.ad (.n a) s1 q1→M n .bl s1 (.s b) s2 q2→M n .bl s2.ad (.s c) s' q4→∀u,M (n+1) .st s (.s (⟨4,tx [],a,[],(b.length:Int),(c.length:Int)⟩::(b++c))) s' u)
 (swh:∀(n:Nat)(s:PS)(a:List Nd)(s1:PS)(b:List St)(s2:PS),(aC T [119,104,105,108,101] s=true)→∀q1:Pa T n (.pr [40] [41]) s.ad (.n a) s1,∀q2:Pa T n .bl s1 (.s b) s2,M n (.pr [40] [41]) s.ad (.n a) s1 q1→M n .bl s1 (.s b) s2 q2→∀u,M (n+1) .st s (.s (⟨5,tx [],a,[],(b.length:Int),0⟩::b)) s2 u)
 (sre:∀(n:Nat)(s:PS)(a:List Nd)(s':PS),(aC T [114,101,116,117,114,110] s=true)→∀q1:Pa T n (.e 1) s.ad (.n a) s',M n (.e 1) s.ad (.n a) s' q1→∀u,M (n+1) .st s (.s [⟨6,tx [],a,[],0,0⟩]) (bq T [59] s') u)
 (sou:∀(n:Nat)(s:PS)(a:List Nd)(s':PS),(aC T [111,117,116] s=true)→∀q1:Pa T n (.pr [40] [41]) s.ad (.n a) s',M n (.pr [40] [41]) s.ad (.n a) s' q1→∀u,M (n+1) .st s (.s [⟨7,tx [],a,[],0,0⟩]) (bq T [59] s') u)
 (sst:∀(n:Nat)(s:PS)(a:List Nd)(s1:PS)(r:PR)(s':PS),vr T s→(aC T [91] (aS T s).2=true)→∀q2:Pa T n (.pr [91] [93]) (aS T s).2 (.n a) s1,∀q3:Pa T n (.sg ⟨3,(aS T s).1,a,[],0,0⟩) s1 r s',M n (.pr [91] [93]) (aS T s).2 (.n a) s1 q2→M n (.sg ⟨3,(aS T s).1,a,[],0,0⟩) s1 r s' q3→∀u,M (n+1) .st s r s' u)
 (sca:∀(n:Nat)(s:PS)(a:List Nd)(s':PS),vr T s→(aC T [91] (aS T s).2=false)→(aC T [40] (aS T s).2=true)→∀q3:Pa T n (.ar (aS T s).1) (aS T s).2 (.n a) s',M n (.ar (aS T s).1) (aS T s).2 (.n a) s' q3→∀u,M (n+1) .st s (.s [⟨8,tx [],a,[],0,0⟩]) (bq T [59] s') u)
 (sse:∀(n:Nat)(s:PS)(r:PR)(s':PS),vr T s→(aC T [91] (aS T s).2=false)→(aC T [40] (aS T s).2=false)→∀q3:Pa T n (.sg (st0 2 (aS T s).1)) (aS T s).2 r s',M n (.sg (st0 2 (aS T s).1)) (aS T s).2 r s' q3→∀u,M (n+1) .st s r s' u)
 (pld:∀(n:Nat)(o:List ByteArray)(s:PS),(s.er≠0∨(o=[]/\aC T [41] s=true))→∀u,M (n+1) (.pl o) s (.p o) s u)
 (ple:∀(n:Nat)(o:List ByteArray)(s:PS),(s.er=0)→(o≠[]∨aC T [41] s=false)→(aC T [44] (aS T (bq T [105,110,116] s)).2=false)→∀u,M (n+1) (.pl o) s (.p (o++[(aS T (bq T [105,110,116] s)).1])) (aS T (bq T [105,110,116] s)).2 u)
 (plm:∀(n:Nat)(o:List ByteArray)(s:PS)(r:PR)(s':PS),(s.er=0)→(o≠[]∨aC T [41] s=false)→(aC T [44] (aS T (bq T [105,110,116] s)).2=true)→∀q3:Pa T n (.pl (o++[(aS T (bq T [105,110,116] s)).1])) (aS T (bq T [105,110,116] s)).2.ad r s',M n (.pl (o++[(aS T (bq T [105,110,116] s)).1])) (aS T (bq T [105,110,116] s)).2.ad r s' q3→∀u,M (n+1) (.pl o) s r s' u)
 {a0:Nat}{a1:PT}{a2:PS}{a3:PR}{a4:PS}(u:Pa T a0 a1 a2 a3 a4):M a0 a1 a2 a3 a4 u:=
 (u.out (fun a0 a1 a2 a3 a4=>∃z_,M a0 a1 a2 a3 a4 z_) ⟨fun n m s a s1 r s' q0 q1=>⟨.ex n m s a s1 r s' q0.1 q1.1,ex n m s a s1 r s' _ _ q0.2 q1.2 _⟩,
 fun n m o s q0=>⟨.lpd n m o s q0,lpd n m o s q0 _⟩,
 fun n m o s q0 q1=>⟨.lps n m o s q0 q1,lps n m o s q0 q1 _⟩,
 fun n m o s x a s1 r s' q0 q1 q2 q3 q4=>⟨.lpm n m o s x a s1 r s' q0 q1 q2 q3.1 q4.1,lpm n m o s x a s1 r s' q0 q1 q2 _ _ q3.2 q4.2 _⟩,
 fun n k hk s a s' q0 q1 q2=>⟨.oun n k hk s a s' q0 q1 q2.1,oun n k hk s a s' q0 q1 _ q2.2 _⟩,
 fun n k hk s q0 q1=>⟨.oud n k hk s q0 q1,oud n k hk s q0 q1 _⟩,
 fun n x y s q0=>⟨.prd n x y s q0,prd n x y s q0 _⟩,
 fun n x y s a s' q0 q1=>⟨.pre n x y s a s' q0 q1.1,pre n x y s a s' q0 _ q1.2 _⟩,
 fun n s r s' q0 q1=>⟨.opa n s r s' q0 q1.1,opa n s r s' q0 _ q1.2 _⟩,
 fun n s q0=>⟨.oin n s q0,oin n s q0 _⟩,
 fun n s q0 q1=>⟨.onu n s q0 q1,onu n s q0 q1 _⟩,
 fun n s a s' q0 q1 q2=>⟨.oix n s a s' q0 q1 q2.1,oix n s a s' q0 q1 _ q2.2 _⟩,
 fun n s r s' q0 q1 q2 q3=>⟨.oca n s r s' q0 q1 q2 q3.1,oca n s r s' q0 q1 q2 _ q3.2 _⟩,
 fun n s q0 q1 q2=>⟨.ova n s q0 q1 q2,ova n s q0 q1 q2 _⟩,
 fun n x s a k s' q0=>⟨.arg n x s a k s' q0.1,arg n x s a k s' _ q0.2 _⟩,
 fun n k o s q0=>⟨.ald n k o s q0,ald n k o s q0 _⟩,
 fun n k o s q0 q1 q2=>⟨.al0 n k o s q0 q1 q2,al0 n k o s q0 q1 q2 _⟩,
 fun n k o s a s' q0 q1 q2 q3=>⟨.ale n k o s a s' q0 q1 q2.1 q3,ale n k o s a s' q0 q1 _ q3 q2.2 _⟩,
 fun n k o s a s1 r s' q0 q1 q2 q3 q4=>⟨.alm n k o s a s1 r s' q0 q1 q2.1 q3 q4.1,alm n k o s a s1 r s' q0 q1 _ q3 _ q2.2 q4.2 _⟩,
 fun n s a s' q0=>⟨.blk n s a s' q0.1,blk n s a s' _ q0.2 _⟩,
 fun n o s q0=>⟨.bsd n o s q0,bsd n o s q0 _⟩,
 fun n o s a s1 r s' q0 q1 q2 q3=>⟨.bsm n o s a s1 r s' q0 q1 q2.1 q3.1,bsm n o s a s1 r s' q0 q1 _ _ q2.2 q3.2 _⟩,
 fun n t s q0=>⟨.sgd n t s q0,sgd n t s q0 _⟩,
 fun n t s a s' q0 q1=>⟨.sge n t s a s' q0 q1.1,sge n t s a s' q0 _ q1.2 _⟩,
 fun n s r s' q0 q1=>⟨.sin n s r s' q0 q1.1,sin n s r s' q0 _ q1.2 _⟩,
 fun n s a s1 b s2 q0 q1 q2 q3=>⟨.sif n s a s1 b s2 q0 q1.1 q2.1 q3,sif n s a s1 b s2 q0 _ _ q3 q1.2 q2.2 _⟩,
 fun n s a s1 b s2 c s' q0 q1 q2 q3 q4=>⟨.sel n s a s1 b s2 c s' q0 q1.1 q2.1 q3 q4.1,sel n s a s1 b s2 c s' q0 _ _ q3 _ q1.2 q2.2 q4.2 _⟩,
 fun n s a s1 b s2 q0 q1 q2=>⟨.swh n s a s1 b s2 q0 q1.1 q2.1,swh n s a s1 b s2 q0 _ _ q1.2 q2.2 _⟩,
 fun n s a s' q0 q1=>⟨.sre n s a s' q0 q1.1,sre n s a s' q0 _ q1.2 _⟩,
 fun n s a s' q0 q1=>⟨.sou n s a s' q0 q1.1,sou n s a s' q0 _ q1.2 _⟩,
 fun n s a s1 r s' q0 q1 q2 q3=>⟨.sst n s a s1 r s' q0 q1 q2.1 q3.1,sst n s a s1 r s' q0 q1 _ _ q2.2 q3.2 _⟩,
 fun n s a s' q0 q1 q2 q3=>⟨.sca n s a s' q0 q1 q2 q3.1,sca n s a s' q0 q1 q2 _ q3.2 _⟩,
 fun n s r s' q0 q1 q2 q3=>⟨.sse n s r s' q0 q1 q2 q3.1,sse n s r s' q0 q1 q2 _ q3.2 _⟩,
 fun n o s q0=>⟨.pld n o s q0,pld n o s q0 _⟩,
 fun n o s q0 q1 q2=>⟨.ple n o s q0 q1 q2,ple n o s q0 q1 q2 _⟩,
 fun n o s r s' q0 q1 q2 q3=>⟨.plm n o s r s' q0 q1 q2 q3.1,plm n o s r s' q0 q1 q2 _ q3.2 _⟩⟩).2
section
variable{s s':PS}{x:List UInt8}
def iV(T:Nat->To)(s:PS):Prop:=s.er≠0∨(T s.i).kind=5
def kQ(T:Nat->To)(s:PS):Int×Int:=if s.er=0 then(2,((T s.i).pl:Int))else(s.er,s.pl)
def Dm(T:Nat->To)(s s':PS):Prop:=iV T s->iV T s'/\kQ T s'=kQ T s
section
variable{T:Nat->To}
theorem Dm.refl(s:PS):Dm T s s:=fun h=>⟨h,rfl⟩
theorem Dm.trans{a b c:PS}(h:Dm T a b)(h':Dm T b c):Dm T a c:=fun hd=>by
 obtain⟨h1,h2⟩:=h hd;obtain⟨h3,h4⟩:=h' h1;exact⟨h3,h4.trans h2⟩
theorem Dm.no(h:¬iV T s):Dm T s s':=fun hd=>absurd hd h
theorem cL(h:aC T x s=true):¬iV T s/\s.er=0/\yO (T s.i)=true/\(T s.i).text=tx x:=by
 unfold aC at h;simp only[Bool.and_eq_true,decide_eq_true_eq]at h;obtain⟨⟨h1,h2⟩,h3⟩:=h;refine⟨fun hd=>?_,h1,h2,h3⟩;rcases hd with hd|hd
 ·exact hd h1
 ·unfold yO at h2;simp[hd]at h2
theorem AE(h:iV T s):aC T x s=false:=by
 cases hi:aC T x s with
 | false=>rfl
 | true=>exact absurd h (cL hi).1
theorem vt(c:Int)(s:PS):Dm T s (h_ T c s):=fun h=>by
 unfold h_;by_cases he:s.er=0
 ·rw[if_pos he];have h5:(T s.i).kind=5:=h.resolve_left (fun h=>h he);refine⟨.inl (by simp[h5]),?_⟩;unfold kQ;simp[h5,he]
 ·rw[if_neg he];exact⟨h,rfl⟩
theorem mj(s:PS)(k:Int):Dm T s {s with op:=k}:=fun h=>⟨h,rfl⟩
theorem bQ(x:List UInt8)(s:PS):Dm T s (bq T x s):=fun h=>by
 unfold bq;rw[AE h];exact vt 3 s h
theorem js(x:List UInt8)(s:PS):Dm T s (bA T x s):=fun h=>by
 unfold bA;dsimp only;rw[AE h,if_neg i_];exact((bQ x s).trans (mj _ _)) h
theorem bG(x:List UInt8)(s:PS):Dm T s (cO T x s):=(bQ x s).trans (mj _ _)
theorem Dz(h:iV T s):vq T s=false:=by
 unfold vq;rcases h with h|h
 ·simp[h]
 ·simp[h]
theorem gU(s:PS):Dm T s (aS T s).2:=fun h=>by
 unfold aS;rw[Dz h];exact vt 3 s h
theorem rI(s:PS):Dm T s (fZ T s).2:=fun h=>by
 unfold fZ;rw[if_neg (fun ⟨h1,h2⟩=>by rcases h with h|h;exact h h1;omega)];exact vt 3 s h
theorem rJ{x:List UInt8×Nd×Int}(h:gi T s=some x):aC T x.1 s=true/\x∈fq:=by
 unfold gi at h;exact⟨List.find?_some (p:=fun (o:List UInt8×Nd×Int)=>aC T o.1 s) h,List.mem_of_find?_eq_some h⟩
theorem Pa.dm{n:Nat}{k:PT}{r:PR}(h:Pa T n k s r s'):Dm T s s':=by
 induction h using Pa_i with
 | ex n m s a s1 r s' h1 h2 i1 i2=>exact i1.trans i2
 | lpd n m o s h1=>exact Dm.refl _
 | lps n m o s h1 h2=>exact Dm.refl _
 | lpm n m o s x a s1 r s' h1 h2 h3 h4 h5 i4 i5=>exact Dm.no (cL (rJ h2).1).1
 | oun n k hk s a s' h1 h2 h3 i3=>exact Dm.no (cL h1).1
 | oud n k hk s h1 h2=>exact Dm.no (cL h1).1
 | prd n x y s h1=>exact(js x s).trans (bG y _)
 | pre n x y s a s' h1 h2 i2=>exact((js x s).trans i2).trans (bG y _)
 | opa n s r s' h1 h2 i2=>exact i2
 | oin n s h1=>exact Dm.no (cL h1).1
 | onu n s h1 h2=>exact Dm.no (fun h=>by rcases h with h|h;exact h h1;omega)
 | oix n s a s' h1 h2 h3 i3=>exact(gU s).trans i3
 | oca n s r s' h1 h2 h3 h4 i4=>exact(gU s).trans i4
 | ova n s h1 h2 h3=>exact gU s
 | arg n x s a k s' h1 i1=>exact((js _ s).trans i1).trans (bG _ _)
 | ald n k o s h1=>exact Dm.refl _
 | al0 n k o s h1 h0 h2=>exact Dm.refl _
 | ale n k o s a s' h1 h2 h3 h4 i3=>exact i3
 | alm n k o s a s1 r s' h1 h2 h3 h4 h5 i3 i5=>exact fun hd=>absurd (i3 hd).1 (cL h4).1
 | blk n s a s' h1 i1=>exact((js _ s).trans i1).trans (bG _ _)
 | bsd n o s h1=>exact Dm.refl _
 | bsm n o s a s1 r s' h1 h2 h3 h4 i3 i4=>exact i3.trans i4
 | sgd n t s h1=>exact(bQ _ s).trans (bQ _ _)
 | sge n t s a s' h1 h2 i2=>exact((bQ _ s).trans i2).trans (bQ _ _)
 | sin n s r s' h1 h2 i2=>exact Dm.no (cL h1).1
 | sif n s a s1 b s2 h1 h2 h3 h4 i2 i3=>exact Dm.no (cL h1).1
 | sel n s a s1 b s2 c s' h1 h2 h3 h4 h5 i2 i3 i5=>exact Dm.no (cL h1).1
 | swh n s a s1 b s2 h1 h2 h3 i2 i3=>exact Dm.no (cL h1).1
 | sre n s a s' h1 h2 i2=>exact Dm.no (cL h1).1
 | sou n s a s' h1 h2 i2=>exact Dm.no (cL h1).1
 | sst n s a s1 r s' h1 h2 h3 h4 i3 i4=>exact(gU s).trans (i3.trans i4)
 | sca n s a s' h1 h2 h3 h4 i4=>exact(gU s).trans (i4.trans (bQ _ _))
 | sse n s r s' h1 h2 h3 h4 i4=>exact(gU s).trans i4
 | pld n o s h1=>exact Dm.refl _
 | ple n o s h1 h2 h3=>exact(bQ _ s).trans (gU _)
 | plm n o s r s' h1 h2 h3 h4 i4=>exact fun hd=>absurd (((bQ _ s).trans (gU _)) hd).1 (cL h3).1
end
end
section
variable{s s':PS}{c:Int}{n:Nat}{k:PT}{r:PR}
structure ft (T:Nat->To) (K:Nat):Prop where
 lt:∀i,i<K->(T i).kind<=3
 at4:4<=(T K).kind
 ge:∀i,1<=(T i).kind
def Mo(K:Nat)(s:PS):Nat:=if s.er=0 then K-s.i+1 else 0
def Wf(K:Nat)(s:PS):Prop:=s.i<=K
section
variable{T:Nat->To}{K:Nat}
theorem AF(h:Wf K s):Mo K s<=K+1:=by unfold Mo;split <;> omega
theorem j4(s:PS)(k:Int):Mo K {s with op:=k}=Mo K s:=rfl
theorem oL(hc:c≠0)(s:PS):(h_ T c s).er≠0/\(h_ T c s).i=s.i:=by
 unfold h_;by_cases h:s.er=0
 ·rw[if_pos h];refine⟨?_,rfl⟩;show(if (T s.i).kind=5 then 2 else c)≠0;split
  ·decide
  ·exact hc
 ·rw[if_neg h];exact⟨h,rfl⟩
theorem rK(hc:c≠0)(s:PS):Mo K (h_ T c s)=0:=by unfold Mo;rw[if_neg (oL hc s).1]
theorem kR(h:s.er=0):0<Mo K s:=by unfold Mo;rw[if_pos h];omega
theorem rL(h:s.er≠0):Mo K s=0:=by unfold Mo;rw[if_neg h]
theorem rM(hT:ft T K)(h:Wf K s)(hk:(T s.i).kind<=3)(h0:s.er=0):Wf K s.ad/\Mo K s.ad<Mo K s:=by
 have Ja:s.i<K:=by
  have:s.i<=K:=h
  by_cases e:s.i=K
  ·rw[e]at hk;have:=hT.at4;omega
  ·omega
 refine⟨by show s.i+1<=K;omega,?_⟩;unfold Mo PS.ad;simp only[h0,if_true];omega
theorem yU{t:To}(h:yO t=true):t.kind<=3:=by unfold yO at h;simp at h;omega
theorem gj(hT:ft T K){x:List UInt8}(h:Wf K s)(hi:aC T x s=true):Wf K s.ad/\Mo K s.ad<Mo K s:=by
 obtain⟨-,h0,h1,-⟩:=cL hi;exact rM hT h (yU h1) h0
def Bg(K:Nat)(s s':PS):Prop:=Wf K s'/\Mo K s'<=Mo K s/\(s.er=0->Mo K s'<Mo K s)
theorem gq(hT:ft T K)(x:List UInt8)(h:Wf K s):Bg K s (bq T x s):=by
 unfold bq;split
 ·rename_i hi;have:=gj hT h hi
  exact⟨this.1,o_,fun _=>this.2⟩
 ·have e:=oL (T:=T) (c:=3) d_ s;have e2:=rK (T:=T) (K:=K) (c:=3) d_ s;exact⟨by show(h_ T 3 s).i<=K;rw[e.2];exact h,o_,fun h0=>by rw[e2];exact kR h0⟩
theorem kT(hT:ft T K)(x:List UInt8)(h:Wf K s):Bg K s (bA T x s):=by
 unfold bA;dsimp only;split
 ·have e:=oL (T:=T) (c:=4) d_ s;have e2:=rK (T:=T) (K:=K) (c:=4) d_ s;have g:=gq hT x (s:=h_ T 4 s) (by show(h_ T 4 s).i<=K;rw[e.2];exact h);refine⟨g.1,?_,fun h0=>?_⟩
  ·have:=g.2.1;rw[j4];omega
  ·have:=g.2.1;rw[j4];have:=kR (K:=K) h0;omega
 ·exact gq hT x h
theorem kU(hT:ft T K)(x:List UInt8)(h:Wf K s):Bg K s (cO T x s):=gq hT x h
theorem oM(hT:ft T K)(h:Wf K s):Bg K s (aS T s).2:=by
 unfold aS;split
 ·rename_i hi;unfold vq at hi;simp only[Bool.and_eq_true,decide_eq_true_eq]at hi;have:=rM hT h o_ hi.1.1
  exact⟨this.1,by show Mo K s.ad<=_;omega,fun _=>this.2⟩
 ·have e:=oL (T:=T) (c:=3) d_ s;have e2:=rK (T:=T) (K:=K) (c:=3) d_ s;exact⟨by show(h_ T 3 s).i<=K;rw[e.2];exact h,by show Mo K (h_ T 3 s)<=_;omega,fun h0=>by show Mo K (h_ T 3 s)<_;rw[e2];exact kR h0⟩
end
def fJ(l:List St):Nat:=(l.map (fun s=>1+s.e.length+s.f.length)).sum
theorem szS_nil:fJ []=0:=rfl
theorem szS_cons(s:St)(l:List St):fJ (s::l)=1+s.e.length+s.f.length+fJ l:=by simp[fJ]
theorem szS_app(a b:List St):fJ (a++b)=fJ a+fJ b:=by simp[fJ]
def PT.ans(k:PT)(r:PR):Prop:=match k with
 | .inl _ | .inr (.inl (_, _)) | .inr (.inr (.inl ())) | .inr (.inr (.inr (.inl (_, _)))) | .inr (.inr (.inr (.inr (.inl _)))) =>∃l,r=.n l
 | .inr (.inr (.inr (.inr (.inr (.inl (_, _)))))) =>∃l k,r=.a l k
 | .inr (.inr (.inr (.inr (.inr (.inr (.inl ())))))) | .inr (.inr (.inr (.inr (.inr (.inr (.inr (.inl _))))))) | .inr (.inr (.inr (.inr (.inr (.inr (.inr (.inr (.inl _)))))))) | .inr (.inr (.inr (.inr (.inr (.inr (.inr (.inr (.inr (.inl ()))))))))) =>∃l,r=.s l
 | .inr (.inr (.inr (.inr (.inr (.inr (.inr (.inr (.inr (.inr _))))))))) =>∃l,r=.p l
def PR.sz:PR->Nat
 | .inl l =>l.length
 | .inr (.inl (l, _)) =>l.length
 | .inr (.inr (.inl l)) =>fJ l
 | .inr (.inr (.inr l)) =>l.length
def PT.sz:PT->Nat
 | .inr (.inl (_, q)) =>q.length
 | .inr (.inr (.inr (.inr (.inr (.inl (_, q)))))) =>q.length
 | .inr (.inr (.inr (.inr (.inr (.inr (.inr (.inl q))))))) =>fJ q
 | .inr (.inr (.inr (.inr (.inr (.inr (.inr (.inr (.inl q)))))))) =>1+q.e.length+q.f.length
 | .inr (.inr (.inr (.inr (.inr (.inr (.inr (.inr (.inr (.inr q))))))))) =>q.length
 | _=>0
def PT.ex(k:PT)(s:PS):Nat:=match k with
 | .inr (.inl (_, _)) =>0
 | .inr (.inr (.inr (.inr (.inr (.inr (.inr (.inl _))))))) =>0
 | .inr (.inr (.inr (.inr (.inr (.inr (.inr (.inr (.inr (.inr _))))))))) =>1
 | .inr (.inr (.inr (.inr (.inr (.inl (_, _)))))) =>4
 | .inl _ | .inr (.inr (.inl ())) =>4
 | .inr (.inr (.inr (.inl (_, _)))) =>if s.er=0 then 0 else 4
 | .inr (.inr (.inr (.inr (.inl _)))) =>5
 | .inr (.inr (.inr (.inr (.inr (.inr (.inr (.inr (.inl _)))))))) =>4
 | .inr (.inr (.inr (.inr (.inr (.inr (.inl ())))))) =>0
 | .inr (.inr (.inr (.inr (.inr (.inr (.inr (.inr (.inr (.inl ()))))))))) =>if s.er=0 then 0 else 5
def PT.rd:PT->Prop
 | .inr (.inl (_, _)) | .inr (.inr (.inr (.inr (.inr (.inl (_, _)))))) | .inr (.inr (.inr (.inr (.inr (.inr (.inr (.inl _))))))) | .inr (.inr (.inr (.inr (.inr (.inr (.inr (.inr (.inr (.inr _))))))))) =>False
 | _=>True
def PT.rk:PT->Nat
 | .inr (.inl (_, _)) =>0
 | .inr (.inr (.inr (.inl (_, _)))) =>1
 | .inr (.inr (.inl ())) =>2
 | .inl _ =>3
 | .inr (.inr (.inr (.inr (.inr (.inl (_, _)))))) =>4
 | .inr (.inr (.inr (.inr (.inl _)))) =>5
 | .inr (.inr (.inr (.inr (.inr (.inr (.inr (.inr (.inl _)))))))) =>6
 | .inr (.inr (.inr (.inr (.inr (.inr (.inr (.inr (.inr (.inl ()))))))))) =>10
 | .inr (.inr (.inr (.inr (.inr (.inr (.inr (.inl _))))))) =>11
 | .inr (.inr (.inr (.inr (.inr (.inr (.inl ())))))) =>12
 | .inr (.inr (.inr (.inr (.inr (.inr (.inr (.inr (.inr (.inr _))))))))) =>1
def FI(T:Nat->To)(K:Nat)(k:PT)(s:PS):Prop:=∃n r s',n<=20*Mo K s+k.rk+1/\Pa T n k s r s'/\k.ans r/\Wf K s'/\Mo K s'<=Mo K s/\(k.rd->s.er=0->Mo K s'<Mo K s)/\r.sz+6*Mo K s'<=k.sz+6*Mo K s+k.ex s
theorem Pa.up{T:Nat->To}(h:Pa T n k s r s'):Pa T (n+1) k s r s':=by
 induction h using Pa_i with
 | ex n m s a s1 r s' h1 h2 i1 i2=>exact .ex _ m s a s1 r s' i1 i2
 | lpd n m o s h1=>exact .lpd _ m o s h1
 | lps n m o s h1 h2=>exact .lps _ m o s h1 h2
 | lpm n m o s x a s1 r s' h1 h2 h3 h4 h5 i4 i5=>exact .lpm _ m o s x a s1 r s' h1 h2 h3 i4 i5
 | oun n k hk s a s' h1 h2 h3 i3=>exact .oun _ k hk s a s' h1 h2 i3
 | oud n k hk s h1 h2=>exact .oud _ k hk s h1 h2
 | prd n x y s h1=>exact .prd _ x y s h1
 | pre n x y s a s' h1 h2 i2=>exact .pre _ x y s a s' h1 i2
 | opa n s r s' h1 h2 i2=>exact .opa _ s r s' h1 i2
 | oin n s h1=>exact .oin _ s h1
 | onu n s h1 h2=>exact .onu _ s h1 h2
 | oix n s a s' h1 h2 h3 i3=>exact .oix _ s a s' h1 h2 i3
 | oca n s r s' h1 h2 h3 h4 i4=>exact .oca _ s r s' h1 h2 h3 i4
 | ova n s h1 h2 h3=>exact .ova _ s h1 h2 h3
 | arg n x s a k s' h1 i1=>exact .arg _ x s a k s' i1
 | ald n k o s h1=>exact .ald _ k o s h1
 | al0 n k o s h1 h0 h2=>exact .al0 _ k o s h1 h0 h2
 | ale n k o s a s' h1 h2 h3 h4 i3=>exact .ale _ k o s a s' h1 h2 i3 h4
 | alm n k o s a s1 r s' h1 h2 h3 h4 h5 i3 i5=>exact .alm _ k o s a s1 r s' h1 h2 i3 h4 i5
 | blk n s a s' h1 i1=>exact .blk _ s a s' i1
 | bsd n o s h1=>exact .bsd _ o s h1
 | bsm n o s a s1 r s' h1 h2 h3 h4 i3 i4=>exact .bsm _ o s a s1 r s' h1 h2 i3 i4
 | sgd n t s h1=>exact .sgd _ t s h1
 | sge n t s a s' h1 h2 i2=>exact .sge _ t s a s' h1 i2
 | sin n s r s' h1 h2 i2=>exact .sin _ s r s' h1 i2
 | sif n s a s1 b s2 h1 h2 h3 h4 i2 i3=>exact .sif _ s a s1 b s2 h1 i2 i3 h4
 | sel n s a s1 b s2 c s' h1 h2 h3 h4 h5 i2 i3 i5=>exact .sel _ s a s1 b s2 c s' h1 i2 i3 h4 i5
 | swh n s a s1 b s2 h1 h2 h3 i2 i3=>exact .swh _ s a s1 b s2 h1 i2 i3
 | sre n s a s' h1 h2 i2=>exact .sre _ s a s' h1 i2
 | sou n s a s' h1 h2 i2=>exact .sou _ s a s' h1 i2
 | sst n s a s1 r s' h1 h2 h3 h4 i3 i4=>exact .sst _ s a s1 r s' h1 h2 i3 i4
 | sca n s a s' h1 h2 h3 h4 i4=>exact .sca _ s a s' h1 h2 h3 i4
 | sse n s r s' h1 h2 h3 h4 i4=>exact .sse _ s r s' h1 h2 h3 i4
 | pld n o s h1=>exact .pld _ o s h1
 | ple n o s h1 h2 h3=>exact .ple _ o s h1 h2 h3
 | plm n o s r s' h1 h2 h3 h4 i4=>exact .plm _ o s r s' h1 h2 h3 i4
theorem Pa.ups{T:Nat->To}{k:PT}{s:PS}{r:PR}{s':PS}:∀ {n m:Nat},n<=m->Pa T n k s r s'->Pa T m k s r s'
 | n,m,hm,h=>by
  obtain⟨d,rfl⟩:∃d,m=n+d:=⟨m-n,o_⟩;clear hm;induction d with
  | zero=>exact h
  | succ d ih=>exact ih.up
end
section
section
variable{s:PS}
variable{T:Nat->To}{K:Nat}
theorem fN{x:List UInt8}(h:aC T x s=true):s.er=0:=(cL h).2.1
theorem ml{s':PS}(hg:Bg K s s')(h:s'.er=0):s.er=0:=by
 by_cases h0:s.er=0
 ·exact h0
 ·have:=hg.2.1
  rw[rL h0]at this;have:=kR (K:=K) h;omega
theorem vu(t:St)(a:List Nd):1+(i8 t a).e.length+(i8 t a).f.length<=1+t.e.length+t.f.length+a.length:=by
 unfold i8;split
 ·show 1+t.e.length+a.length<=_;omega
 ·show 1+a.length+t.f.length<=_;omega
theorem rN(hT:ft T K):∀(m:Nat) (k:PT) (s:PS),20*Mo K s+k.rk=m->Wf K s->FI T K k s:=by
 intro m;induction m using Nat.strongRecOn with
 | ind m ih=>
  intro k s hm hw;have Ja:∀k' s',20*Mo K s'+k'.rk<m->Wf K s'->∃n r s1,n<=m/\Pa T n k' s' r s1/\k'.ans r/\Wf K s1/\Mo K s1<=Mo K s'/\(k'.rd->s'.er=0->Mo K s1<Mo K s')/\r.sz+6*Mo K s1<=k'.sz+6*Mo K s'+k'.ex s':=fun k' s' h1 h2=>by
   obtain⟨n,r,s1,hb,hr⟩:=ih _ h1 k' s' rfl h2;exact⟨n,r,s1,o_,hr⟩
  cases k using PT.cs with
  | e least=>
   simp only[PT.rk]at hm;obtain⟨n1,r1,s1,b1,p1,⟨a,rfl⟩,w1,g1,l1,z1⟩:=Ja .o s (by simp only[PT.rk];omega) hw;obtain⟨n2,r2,s2,b2,p2,Jb,w2,g2,-,z2⟩:=Ja (.lp least a) s1 (by simp only[PT.rk];omega) w1;simp only[PR.sz,PT.sz,PT.ex]at z1;simp only[PT.sz,PT.ex]at z2;exact⟨max n1 n2+1,r2,s2,by simp only[PT.rk];omega,.ex _ least s a s1 r2 s2 (p1.ups o_) (p2.ups o_),Jb,w2,o_,fun _ h0=>by have:=l1 trivial h0;omega,by simp only[PT.sz,PT.ex];omega⟩
  | lp least out=>
   simp only[PT.rk]at hm;by_cases h0:s.er=0
   ·cases hi:gi T s with
    | none=>exact⟨1,_,s,by simp only[PT.rk];omega,.lps 0 least out s h0 (fun x hx=>by rw[hi]at hx;cases hx),⟨out,rfl⟩,hw,n_,fun h=>h.elim,by simp only[PR.sz,PT.sz,PT.ex];omega⟩
    | some x=>
     by_cases hx:least<=x.2.2
     ·have ha:=gj hT hw (rJ hi).1;obtain⟨n1,r1,s1,b1,p1,⟨a,rfl⟩,w1,g1,l1,z1⟩:=Ja (.e (x.2.2+1)) s.ad (by simp only[PT.rk];omega) ha.1;obtain⟨n2,r2,s2,b2,p2,Jb,w2,g2,-,z2⟩:=Ja (.lp least (out++a++[x.2.1])) s1 (by simp only[PT.rk];omega) w1;simp only[PR.sz,PT.sz,PT.ex]at z1;simp only[PT.sz,PT.ex,l_a,List.length_singleton]at z2;exact⟨max n1 n2+1,r2,s2,by simp only[PT.rk];omega,.lpm _ least out s x a s1 r2 s2 h0 hi hx (p1.ups o_) (p2.ups o_),Jb,w2,o_,fun h=>h.elim,by simp only[PT.sz,PT.ex];omega⟩
     ·exact⟨1,_,s,by simp only[PT.rk];omega,.lps 0 least out s h0 (fun y hy=>by rw[hi]at hy;cases hy;omega),⟨out,rfl⟩,hw,n_,fun h=>h.elim,by simp only[PR.sz,PT.sz,PT.ex];omega⟩
   ·exact⟨1,_,s,by simp only[PT.rk];omega,.lpd 0 least out s h0,⟨out,rfl⟩,hw,n_,fun h=>h.elim,by simp only[PR.sz,PT.sz,PT.ex];omega⟩
  | o=>
   simp only[PT.rk]at hm;by_cases hu:∃k,∃hk:k<3,aC T (dN[k]'hk) s=true
   ·obtain⟨k,hk,hi⟩:=hu;have h0:=fN hi;have g:=kT hT (dN[k]'hk) hw;have hl:=g.2.2 h0;by_cases he:(bA T (dN[k]'hk) s).er=0
    ·obtain⟨n1,r1,s1,b1,p1,⟨a,rfl⟩,w1,g1,l1,z1⟩:=Ja .o _ (by simp only[PT.rk];omega) g.1;simp only[PR.sz,PT.sz,PT.ex]at z1;exact⟨n1+1,_,_,by simp only[PT.rk];omega,.oun n1 k hk s a s1 hi he p1,⟨_,rfl⟩,w1,by rw[j4];omega,fun _ _=>by rw[j4];omega,by simp only[PR.sz,PT.sz,PT.ex,l_a,List.length_singleton,j4];omega⟩
    ·have hz:=rL (K:=K) he;exact⟨1,_,_,by simp only[PT.rk];omega,.oud 0 k hk s hi he,⟨_,rfl⟩,g.1,by rw[j4];omega,fun _ _=>by rw[j4];omega,by simp only[PR.sz,PT.sz,PT.ex,List.length_singleton,j4];omega⟩
   ·by_cases hp:aC T [40] s=true
    ·have h0:=fN hp;obtain⟨n1,r1,s1,b1,p1,Jc,w1,g1,l1,z1⟩:=Ja (.pr [40] [41]) s (by simp only[PT.rk];omega) hw;simp only[PT.sz,PT.ex,h0,if_true]at z1;exact⟨n1+1,r1,s1,by simp only[PT.rk];omega,.opa n1 s r1 s1 hp p1,Jc,w1,g1,fun _ h0=>l1 trivial h0,by simp only[PT.sz,PT.ex];omega⟩
    ·by_cases hin:aC T [105,110] s=true
     ·have h0:=fN hin;have ha:=gj hT hw hin;have g1:=kT hT [40] ha.1;have g2:=kU hT [41] g1.1;have e1:=g1.2.1;have e2:=g2.2.1;exact⟨1,_,_,by simp only[PT.rk];omega,.oin 0 s hin,⟨_,rfl⟩,g2.1,o_,fun _ _=>by omega,by simp only[PR.sz,PT.sz,PT.ex,List.length_singleton];omega⟩
     ·by_cases hn:s.er=0/\(T s.i).kind=2
      ·have ha:=rM hT hw o_ hn.1;exact⟨1,_,_,by simp only[PT.rk];omega,.onu 0 s hn.1 hn.2,⟨_,rfl⟩,ha.1,o_,fun _ _=>ha.2,by simp only[PR.sz,PT.sz,PT.ex,List.length_singleton];omega⟩
      ·have hR:Dy T s:=⟨fun x hx=>by
        cases hb:aC T x s with
        | false=>rfl
        | true=>
         obtain⟨k,hk,rfl⟩:=List.getElem_of_mem hx;exact absurd ⟨k,hk,hb⟩ hu,by simpa using hp,by simpa using hin,hn⟩
       have g:=oM hT hw;have e1:=g.2.1;by_cases h9:aC T [91] (aS T s).2=true
       ·have h0:=ml g (fN h9);have hl:=g.2.2 h0;obtain⟨n1,r1,s1,b1,p1,⟨a,rfl⟩,w1,g1,l1,z1⟩:=Ja (.pr [91] [93]) _ (by simp only[PT.rk];omega) g.1;simp only[PR.sz,PT.sz,PT.ex,fN h9,if_true]at z1;exact⟨n1+1,_,_,by simp only[PT.rk];omega,.oix n1 s a s1 hR h9 p1,⟨_,rfl⟩,w1,o_,fun _ _=>by omega,by simp only[PR.sz,PT.sz,PT.ex,l_a,List.length_singleton];omega⟩
       ·by_cases h4:aC T [40] (aS T s).2=true
        ·have h0:=ml g (fN h4);have hl:=g.2.2 h0;obtain⟨n1,r1,s1,b1,p1,Jc,w1,g1,l1,z1⟩:=Ja (.ar (aS T s).1) _ (by simp only[PT.rk];omega) g.1;simp only[PT.sz,PT.ex]at z1;exact⟨n1+1,r1,s1,by simp only[PT.rk];omega,.oca n1 s r1 s1 hR (by simpa using h9) h4 p1,Jc,w1,o_,fun _ _=>by omega,by simp only[PT.sz,PT.ex];omega⟩
        ·exact⟨1,_,_,by simp only[PT.rk];omega,.ova 0 s hR (by simpa using h9) (by simpa using h4),⟨_,rfl⟩,g.1,e1,fun _ h0=>g.2.2 h0,by simp only[PR.sz,PT.sz,PT.ex,List.length_singleton];omega⟩
  | pr x y=>
   simp only[PT.rk]at hm;have g:=kT hT x hw;have e1:=g.2.1;by_cases he:(bA T x s).er=0
   ·have h0:=ml g he;have hl:=g.2.2 h0;obtain⟨n1,r1,s1,b1,p1,⟨a,rfl⟩,w1,g1,l1,z1⟩:=Ja (.e 1) _ (by simp only[PT.rk];omega) g.1;have g2:=kU hT y w1;have e2:=g2.2.1;simp only[PR.sz,PT.sz,PT.ex]at z1;exact⟨n1+1,_,_,by simp only[PT.rk];omega,.pre n1 x y s a s1 he p1,⟨_,rfl⟩,g2.1,o_,fun _ _=>by omega,by simp only[PR.sz,PT.sz,PT.ex,h0,if_true];omega⟩
   ·have g2:=kU hT y g.1;have e2:=g2.2.1;exact⟨1,_,_,by simp only[PT.rk];omega,.prd 0 x y s he,⟨_,rfl⟩,g2.1,o_,fun _ h0=>by have:=g.2.2 h0;omega,by simp only[PR.sz,PT.sz,l_n];omega⟩
  | ar x=>
   simp only[PT.rk]at hm;have g:=kT hT [40] hw;have e1:=g.2.1;obtain⟨n1,r1,s1,b1,p1,⟨a,k,rfl⟩,w1,g1,-,z1⟩:=Ja (.al 0 []) _ (by simp only[PT.rk];omega) g.1;have g2:=kU hT [41] w1;have e2:=g2.2.1;simp only[PR.sz,PT.sz,PT.ex,l_n]at z1;exact⟨n1+1,_,_,by simp only[PT.rk];omega,.arg n1 x s a k s1 p1,⟨_,rfl⟩,g2.1,o_,fun _ h0=>by have:=g.2.2 h0;omega,by simp only[PR.sz,PT.sz,PT.ex,l_a,List.length_singleton];omega⟩
  | al k out=>
   simp only[PT.rk]at hm;by_cases h0:s.er=0
   ·by_cases hc:0<k∨aC T [41] s=false
    ·obtain⟨n1,r1,s1,b1,p1,⟨a,rfl⟩,w1,g1,l1,z1⟩:=Ja (.e 1) s (by simp only[PT.rk];omega) hw;have hl:=l1 trivial h0;simp only[PR.sz,PT.sz,PT.ex]at z1;by_cases h4:aC T [44] s1=true
     ·have ha:=gj hT w1 h4;obtain⟨n2,r2,s2,b2,p2,Jb,w2,g2,-,z2⟩:=Ja (.al (k+1) (out++a)) s1.ad (by simp only[PT.rk];omega) ha.1;simp only[PT.sz,PT.ex,l_a]at z2;exact⟨max n1 n2+1,r2,s2,by simp only[PT.rk];omega,.alm _ k out s a s1 r2 s2 h0 hc (p1.ups o_) h4 (p2.ups o_),Jb,w2,o_,fun h=>h.elim,by simp only[PT.sz,PT.ex];omega⟩
     ·exact⟨n1+1,_,_,by simp only[PT.rk];omega,.ale n1 k out s a s1 h0 hc p1 (by simpa using h4),⟨_,_,rfl⟩,w1,o_,fun h=>h.elim,by simp only[PR.sz,PT.sz,PT.ex,l_a];omega⟩
    ·refine⟨1,_,_,by simp only[PT.rk];omega,.al0 0 k out s h0 (fun h=>hc (.inl h)) ?_,⟨_,_,rfl⟩,hw,n_,fun h=>h.elim,by simp only[PR.sz,PT.sz,PT.ex];omega⟩;cases hb:aC T [41] s with
     | true=>rfl
     | false=>exact absurd (.inr hb) hc
   ·exact⟨1,_,_,by simp only[PT.rk];omega,.ald 0 k out s h0,⟨_,_,rfl⟩,hw,n_,fun h=>h.elim,by simp only[PR.sz,PT.sz,PT.ex];omega⟩
  | bl=>
   simp only[PT.rk]at hm;have g:=kT hT [123] hw;have e1:=g.2.1;obtain⟨n1,r1,s1,b1,p1,⟨a,rfl⟩,w1,g1,-,z1⟩:=Ja (.bs []) _ (by simp only[PT.rk];omega) g.1;have g2:=kU hT [125] w1;have e2:=g2.2.1;simp only[PR.sz,PT.sz,PT.ex,szS_nil]at z1;exact⟨n1+1,_,_,by simp only[PT.rk];omega,.blk n1 s a s1 p1,⟨_,rfl⟩,g2.1,o_,fun _ h0=>by have:=g.2.2 h0;omega,by simp only[PR.sz,PT.sz,PT.ex];omega⟩
  | bs out=>
   simp only[PT.rk]at hm;by_cases hd:s.er≠0∨aC T [125] s=true
   ·exact⟨1,_,_,by simp only[PT.rk];omega,.bsd 0 out s hd,⟨_,rfl⟩,hw,n_,fun h=>h.elim,by simp only[PR.sz,PT.sz,PT.ex];omega⟩
   ·have h0:s.er=0:=by
     by_cases h:s.er=0
     ·exact h
     ·exact absurd (.inl h) hd
    have hb:aC T [125] s=false:=by
     cases h:aC T [125] s with
     | false=>rfl
     | true=>exact absurd (.inr h) hd
    obtain⟨n1,r1,s1,b1,p1,⟨a,rfl⟩,w1,g1,l1,z1⟩:=Ja .st s (by simp only[PT.rk];omega) hw;have hl:=l1 trivial h0;obtain⟨n2,r2,s2,b2,p2,Jb,w2,g2,-,z2⟩:=Ja (.bs (out++a)) s1 (by simp only[PT.rk];omega) w1;simp only[PR.sz,PT.sz,PT.ex,h0,if_true]at z1;simp only[PT.sz,PT.ex,szS_app]at z2;exact⟨max n1 n2+1,r2,s2,by simp only[PT.rk];omega,.bsm _ out s a s1 r2 s2 h0 hb (p1.ups o_) (p2.ups o_),Jb,w2,o_,fun h=>h.elim,by simp only[PT.sz,PT.ex];omega⟩
  | sg t=>
   simp only[PT.rk]at hm;have g:=gq hT [61] hw;have e1:=g.2.1;by_cases he:(bq T [61] s).er=0
   ·have h0:=ml g he;have hl:=g.2.2 h0;obtain⟨n1,r1,s1,b1,p1,⟨a,rfl⟩,w1,g1,l1,z1⟩:=Ja (.e 1) _ (by simp only[PT.rk];omega) g.1;have g2:=gq hT [59] w1;have e2:=g2.2.1;have hz:=vu t a;simp only[PR.sz,PT.sz,PT.ex]at z1;exact⟨n1+1,_,_,by simp only[PT.rk];omega,.sge n1 t s a s1 he p1,⟨_,rfl⟩,g2.1,o_,fun _ _=>by omega,by simp only[PR.sz,PT.sz,PT.ex,szS_cons,szS_nil];omega⟩
   ·have g2:=gq hT [59] g.1;have e2:=g2.2.1;have hz:=vu t [];simp only[l_n]at hz;exact⟨1,_,_,by simp only[PT.rk];omega,.sgd 0 t s he,⟨_,rfl⟩,g2.1,o_,fun _ h0=>by have:=g.2.2 h0;omega,by simp only[PR.sz,PT.sz,PT.ex,szS_cons,szS_nil];omega⟩
  | st=>
   simp only[PT.rk]at hm;by_cases h1:aC T [105,110,116] s=true
   ·have h0:=fN h1;have ha:=gj hT hw h1;have g:=oM hT ha.1;have e1:=g.2.1;obtain⟨n1,r1,s1,b1,p1,Jc,w1,g1,l1,z1⟩:=Ja (.sg (st0 1 (aS T s.ad).1)) _ (by simp only[PT.rk];omega) g.1;simp only[PT.sz,PT.ex,st0,l_n]at z1;exact⟨n1+1,r1,s1,by simp only[PT.rk];omega,.sin n1 s r1 s1 h1 p1,Jc,w1,o_,fun _ _=>by omega,by simp only[PT.sz,PT.ex,h0,if_true];omega⟩
   by_cases h2:aC T [105,102] s=true
   ·have h0:=fN h2;have ha:=gj hT hw h2;obtain⟨n1,r1,s1,b1,p1,⟨a,rfl⟩,w1,g1,l1,z1⟩:=Ja (.pr [40] [41]) _ (by simp only[PT.rk];omega) ha.1;obtain⟨n2,r2,s2,b2,p2,⟨b,rfl⟩,w2,g2,l2,z2⟩:=Ja .bl s1 (by simp only[PT.rk];omega) w1;have hx:PT.ex (.pr [40] [41]) s.ad<=4:=by simp only[PT.ex];split <;> omega
    simp only[PR.sz,PT.sz,PT.ex]at z1 z2;by_cases h3:aC T [101,108,115,101] s2=true
    ·have hb:=gj hT w2 h3;obtain⟨n3,r3,s3,b3,p3,⟨c,rfl⟩,w3,g3,l3,z3⟩:=Ja .bl s2.ad (by simp only[PT.rk];omega) hb.1;simp only[PR.sz,PT.sz,PT.ex]at z3;refine⟨max n1 (max n2 n3)+1,_,_,by simp only[PT.rk];omega,.sel _ s a s1 b s2 c s3 h2 (p1.ups o_) (p2.ups o_) h3 (p3.ups o_),⟨_,rfl⟩,w3,o_,fun _ _=>by omega,?_⟩;simp only[PR.sz,PT.sz,PT.ex,szS_cons,szS_app,h0,if_true,l_n];split at z1 <;> omega
    ·refine⟨max n1 n2+1,_,_,by simp only[PT.rk];omega,.sif _ s a s1 b s2 h2 (p1.ups o_) (p2.ups o_) (by simpa using h3),⟨_,rfl⟩,w2,o_,fun _ _=>by omega,?_⟩;simp only[PR.sz,PT.sz,PT.ex,szS_cons,h0,if_true,l_n];split at z1 <;> omega
   by_cases h3:aC T [119,104,105,108,101] s=true
   ·have h0:=fN h3;have ha:=gj hT hw h3;obtain⟨n1,r1,s1,b1,p1,⟨a,rfl⟩,w1,g1,l1,z1⟩:=Ja (.pr [40] [41]) _ (by simp only[PT.rk];omega) ha.1;obtain⟨n2,r2,s2,b2,p2,⟨b,rfl⟩,w2,g2,l2,z2⟩:=Ja .bl s1 (by simp only[PT.rk];omega) w1;simp only[PR.sz,PT.sz,PT.ex]at z1 z2;refine⟨max n1 n2+1,_,_,by simp only[PT.rk];omega,.swh _ s a s1 b s2 h3 (p1.ups o_) (p2.ups o_),⟨_,rfl⟩,w2,o_,fun _ _=>by omega,?_⟩;simp only[PR.sz,PT.sz,PT.ex,szS_cons,h0,if_true,l_n];split at z1 <;> omega
   by_cases h4:aC T [114,101,116,117,114,110] s=true
   ·have h0:=fN h4;have ha:=gj hT hw h4;obtain⟨n1,r1,s1,b1,p1,⟨a,rfl⟩,w1,g1,l1,z1⟩:=Ja (.e 1) _ (by simp only[PT.rk];omega) ha.1;have g2:=gq hT [59] w1;have e2:=g2.2.1;simp only[PR.sz,PT.sz,PT.ex]at z1;exact⟨n1+1,_,_,by simp only[PT.rk];omega,.sre n1 s a s1 h4 p1,⟨_,rfl⟩,g2.1,o_,fun _ _=>by omega,by simp only[PR.sz,PT.sz,PT.ex,szS_cons,szS_nil,h0,if_true,l_n];omega⟩
   by_cases h5:aC T [111,117,116] s=true
   ·have h0:=fN h5;have ha:=gj hT hw h5;obtain⟨n1,r1,s1,b1,p1,⟨a,rfl⟩,w1,g1,l1,z1⟩:=Ja (.pr [40] [41]) _ (by simp only[PT.rk];omega) ha.1;have g2:=gq hT [59] w1;have e2:=g2.2.1;simp only[PR.sz,PT.sz,PT.ex]at z1;refine⟨n1+1,_,_,by simp only[PT.rk];omega,.sou n1 s a s1 h5 p1,⟨_,rfl⟩,g2.1,o_,fun _ _=>by omega,?_⟩;simp only[PR.sz,PT.sz,PT.ex,szS_cons,szS_nil,h0,if_true,l_n];split at z1 <;> omega
   have hS:vr T s:=⟨by simpa using h1,by simpa using h2,by simpa using h3,by simpa using h4,by simpa using h5⟩;have g:=oM hT hw;have e1:=g.2.1;by_cases h9:aC T [91] (aS T s).2=true
   ·have h0:=ml g (fN h9);have hl:=g.2.2 h0;obtain⟨n1,r1,s1,b1,p1,⟨a,rfl⟩,w1,g1,l1,z1⟩:=Ja (.pr [91] [93]) _ (by simp only[PT.rk];omega) g.1;obtain⟨n2,r2,s2,b2,p2,Jb,w2,g2,l2,z2⟩:=Ja (.sg ⟨3,(aS T s).1,a,[],0,0⟩) s1 (by simp only[PT.rk];omega) w1;simp only[PR.sz,PT.sz,PT.ex,fN h9,if_true]at z1;simp only[PT.sz,PT.ex,l_n]at z2;exact⟨max n1 n2+1,r2,s2,by simp only[PT.rk];omega,.sst _ s a s1 r2 s2 hS h9 (p1.ups o_) (p2.ups o_),Jb,w2,o_,fun _ _=>by omega,by simp only[PT.sz,PT.ex,h0,if_true];omega⟩
   ·have Jd:aC T [91] (aS T s).2=false:=by simpa using h9
    by_cases h4:aC T [40] (aS T s).2=true
    ·have h0:=ml g (fN h4);have hl:=g.2.2 h0;obtain⟨n1,r1,s1,b1,p1,⟨a,rfl⟩,w1,g1,l1,z1⟩:=Ja (.ar (aS T s).1) _ (by simp only[PT.rk];omega) g.1;have g2:=gq hT [59] w1;have e2:=g2.2.1;simp only[PR.sz,PT.sz,PT.ex]at z1;exact⟨n1+1,_,_,by simp only[PT.rk];omega,.sca n1 s a s1 hS Jd h4 p1,⟨_,rfl⟩,g2.1,o_,fun _ _=>by omega,by simp only[PR.sz,PT.sz,PT.ex,szS_cons,szS_nil,h0,if_true,l_n];omega⟩
    ·obtain⟨n1,r1,s1,b1,p1,Jc,w1,g1,l1,z1⟩:=Ja (.sg (st0 2 (aS T s).1)) _ (by simp only[PT.rk];omega) g.1;simp only[PT.sz,PT.ex,st0,l_n]at z1;refine⟨n1+1,r1,s1,by simp only[PT.rk];omega,.sse n1 s r1 s1 hS Jd (by simpa using h4) p1,Jc,w1,o_,fun _ h0=>by have:=g.2.2 h0;omega,?_⟩;simp only[PT.sz,PT.ex];split
     ·rename_i h0;have:=g.2.2 h0
      omega
     ·omega
  | pl out=>
   simp only[PT.rk]at hm;by_cases hd:s.er≠0∨(out=[]/\aC T [41] s=true)
   ·exact⟨1,_,_,by simp only[PT.rk];omega,.pld 0 out s hd,⟨_,rfl⟩,hw,n_,fun h=>h.elim,by simp only[PR.sz,PT.sz,PT.ex];omega⟩
   ·have h0:s.er=0:=by
     by_cases h:s.er=0
     ·exact h
     ·exact absurd (.inl h) hd
    have hb:out≠[]∨aC T [41] s=false:=by
     by_cases h:out=[]
     ·right
      cases h':aC T [41] s with
      | false=>rfl
      | true=>exact absurd (.inr ⟨h,h'⟩) hd
     ·exact .inl h
    have g1:=gq hT [105,110,116] hw;have g2:=oM hT g1.1;have e1:=g1.2.2 h0;have e2:=g2.2.1;by_cases h4:aC T [44] (aS T (bq T [105,110,116] s)).2=true
    ·have ha:=gj hT g2.1 h4;obtain⟨n2,r2,s2,b2,p2,Jb,w2,g3,-,z2⟩:=Ja (.pl (out++[(aS T (bq T [105,110,116] s)).1])) _ (by simp only[PT.rk];omega) ha.1;simp only[PT.sz,PT.ex,l_a,List.length_singleton]at z2;exact⟨n2+1,r2,s2,by simp only[PT.rk];omega,.plm n2 out s r2 s2 h0 hb h4 p2,Jb,w2,o_,fun h=>h.elim,by simp only[PT.sz,PT.ex];omega⟩
    ·exact⟨1,_,_,by simp only[PT.rk];omega,.ple 0 out s h0 hb (by simpa using h4),⟨_,rfl⟩,g2.1,o_,fun h=>h.elim,by simp only[PR.sz,PT.sz,PT.ex,l_a,List.length_singleton];omega⟩
end
end
section
variable{x y l:List UInt8}{s:PS}{t:To}
def dF(t:To):Int:=if t.kind=4 then 0 else if t.kind=1 then(if dZ t.text=true then 3 else 1)else t.kind
def Bh(x:List UInt8):Bool:=x == [105,110,116] || x == [105,102] || x == [101,108,115,101] || x == [119,104,105,108,101] || x == [114,101,116,117,114,110] || x == [105,110] || x == [111,117,116]
theorem yV(x:List UInt8):dZ (tx x)=Bh x:=by
 unfold dZ Bh tx;rw[ByteArray.toList_eq]
def dV(x:List UInt8):Bool:=Bh x || !((x.head?.map cG).getD false)
theorem nf(h:tx x=tx y):x=y:=by unfold tx at h;simpa using h
theorem ql(r:List UInt8)(p:Nat)(h:(bZ r p).1.kind=1):∃c q,(bZ r p).1.text=tx (c::q)/\cG c=true:=by
 unfold bZ at h⊢;cases r with
 | nil=>simp at h
 | cons c r=>
  dsimp only at h⊢;cases hf:cG c with
  | true=>
   rw[hf]at h;simp only[if_true]at h⊢;split at h
   ·simp at h
   ·rename_i hl;rw[if_neg hl];refine⟨c,r.takeWhile cJ,?_,hf⟩;have:cJ c=true:=by
     unfold cJ de;rw[show smallB (cI c)=true from hf];rfl
    rw[List.takeWhile_cons,if_pos this]
  | false=>
   exfalso
   rw[hf]at h;simp only[Bool.false_eq_true,if_false]at h
   (repeat' split at h) <;> simp at h
theorem td(l:List UInt8)(i:Nat)(h:(ai l i).kind=1):∃c q,(ai l i).text=tx (c::q)/\cG c=true:=ql _ _ h
theorem rO(h0:s.er=0)(hx:dV x=true){tt:ByteArray}(ht:dF (ai l s.i)=3->tt=(ai l s.i).text):
  (decide (dF (ai l s.i)=3)&&decide (tt=tx x))=aC (ai l) x s:=by
 have hk:=dE l s.i;have hf:=td l s.i;unfold aC yO;rw[decide_eq_true h0,Bool.true_and];generalize ai l s.i=t at*;by_cases h3:dF t=3
 ·rw[decide_eq_true h3,Bool.true_and,ht h3];have:t.kind=1∨t.kind=3:=by
   unfold dF at h3;split at h3
   ·simp at h3
   ·split at h3
    ·rename_i h;exact .inl h
    ·exact .inr h3
  rw[decide_eq_true this,Bool.true_and]
 ·rw[decide_eq_false h3,Bool.false_and];symm
  rw[Bool.and_eq_false_iff];by_cases h1:t.kind=1
  ·right
   rw[decide_eq_false_iff_not];intro e;have hr:dZ t.text=false:=by
    cases hb:dZ t.text with
    | false=>rfl
    | true=>exact absurd (by unfold dF;simp[h1,hb]) h3
   obtain⟨c,q,e1,hc⟩:=hf h1;have e2:=nf (e1.symm.trans e);unfold dV at hx;rw[<-yV,<-e,hr,<-e2]at hx;simp[hc]at hx
  ·left
   rw[decide_eq_false_iff_not];rintro(h|h)
   ·exact h1 h
   ·exact h3 (by unfold dF;simp[h])
theorem vw(h0:s.er=0):vq (ai l) s=decide (dF (ai l s.i)=1):=by
 have hk:=dE l s.i;unfold vq dF;rw[decide_eq_true h0,Bool.true_and];generalize ai l s.i=t at*;by_cases h1:t.kind=1
 ·cases hb:dZ t.text <;> simp[h1]
 ·have:¬(if t.kind=4 then(0:Int)else if t.kind=1 then(if dZ t.text=true then 3 else 1)else t.kind)=1:=by
   rw[if_neg h1];split <;> omega
  rw[decide_eq_false h1,decide_eq_false this,Bool.false_and]
theorem qm(h1:1<=t.kind):dF t=2↔t.kind=2:=by
 unfold dF;split
 ·constructor <;> intro h <;> omega
 ·split
  ·split <;> (constructor <;> intro h <;> omega)
  ·exact Iff.rfl
theorem Bi(h1:1<=t.kind):dF t=0↔t.kind=4:=by
 unfold dF;split
 ·rename_i h;exact⟨fun _=>h,fun _=>rfl⟩
 ·split
  ·split <;> (constructor <;> intro h <;> omega)
  ·constructor <;> intro h <;> omega
section
variable{T:Nat->To}
theorem dB(h:¬iV T s):s.er=0:=by
 by_cases h0:s.er=0
 ·exact h0
 ·exact absurd (.inl h0) h
theorem AG(h:¬iV T s):(T s.i).kind≠5:=fun h5=>h (.inr h5)
theorem rP(h:¬iV T s){c:Int}(hc:c≠0):iV T (h_ T c s)/\kQ T (h_ T c s)=(c,((T s.i).pl:Int)):=by
 have h0:=dB h;have h5:=AG h;unfold h_;rw[if_pos h0,if_neg h5];exact⟨.inl hc,by unfold kQ;simp[hc]⟩
theorem qo(h:aC T x s=true):bq T x s=s.ad:=by unfold bq;rw[if_pos h]
theorem vy(ha:¬iV T s)(h:aC T x s=false):iV T (bq T x s)/\kQ T (bq T x s)=(3,((T s.i).pl:Int)):=by
 unfold bq;rw[h,if_neg i_];exact rP ha d_
theorem Bj(h:aC T x s=true)(ho:s.op≠30):bA T x s={s.ad with op:=s.op+1}:=by
 unfold bA;dsimp only;rw[if_neg (fun e=>ho e.2),qo h];rfl
theorem yW(h:aC T x s=true)(ho:s.op=30):iV T (bA T x s)/\kQ T (bA T x s)=(4,((T s.i).pl:Int)):=by
 have ha:=(cL h).1;obtain⟨h1,h2⟩:=rP ha (c:=4) d_;unfold bA;dsimp only;rw[if_pos ⟨h,ho⟩];obtain⟨h3,h4⟩:=bQ x _ h1;exact⟨h3,h4.trans h2⟩
theorem AH(ha:¬iV T s)(h:aC T x s=false):iV T (bA T x s)/\kQ T (bA T x s)=(3,((T s.i).pl:Int)):=by
 unfold bA;dsimp only;rw[if_neg (fun e=>by rw[h]at e;cases e.1)];exact vy ha h
theorem Bk(h:vq T s=true):aS T s=((T s.i).text,s.ad):=by unfold aS;rw[if_pos h]
theorem vA(ha:¬iV T s)(h:vq T s=false):iV T (aS T s).2/\kQ T (aS T s).2=(3,((T s.i).pl:Int)):=by
 unfold aS;rw[h,if_neg i_];exact rP ha d_
theorem vB(h0:s.er=0)(h:(T s.i).kind=2):fZ T s=((T s.i).num,s.ad):=by unfold fZ;rw[if_pos ⟨h0,h⟩]
theorem DA(ha:¬iV T s)(h:(T s.i).kind≠2):iV T (fZ T s).2/\kQ T (fZ T s).2=(3,((T s.i).pl:Int)):=by
 unfold fZ;rw[if_neg (fun e=>h e.2)];exact rP ha d_
theorem Bm(h:aC T x s=true)(h':aC T y s=true):x=y:=nf ((cL h).2.2.2.symm.trans (cL h').2.2.2)
theorem Bn:(fq.map (·.1)).Nodup:=by decide
theorem yX{a b:List UInt8×Nd×Int}(ha:a∈fq)(hb:b∈fq)(h:a.1=b.1):a=b:=by
 obtain⟨i,hi,rfl⟩:=List.getElem_of_mem ha;obtain⟨j,hj,rfl⟩:=List.getElem_of_mem hb;have hn:=Bn;have Ja:i<(fq.map (·.1)).length:=by rw[List.length_map];exact hi
 have Jb:j<(fq.map (·.1)).length:=by rw[List.length_map];exact hj
 have:(fq.map (·.1))[i]'Ja=(fq.map (·.1))[j]'Jb:=by rw[List.getElem_map,List.getElem_map];exact h
 have e:=(List.getElem_inj hn).1 this;subst e;rfl
theorem DB{o:List UInt8×Nd×Int}(ho:o∈fq)(h:aC T o.1 s=true):gi T s=some o:=by
 cases hf:gi T s with
 | none=>
  unfold gi at hf;have:=List.find?_eq_none.1 hf o ho;exact absurd h this
 | some x=>
  obtain⟨h1,h2⟩:=rJ hf;rw[yX h2 ho (Bm h1 h)]
theorem yY(h:∀o∈fq,aC T o.1 s=false):gi T s=none:=by
 unfold gi;exact List.find?_eq_none.2 fun o ho=>by rw[h o ho];simp
end
def jK:List (List UInt8×Int×Int×Int):=[([124,124],1,9,0),([38,38],2,8,0),([124],3,7,15),([94],4,7,14),([38],5,7,13),([61,61],6,7,11),([33,61],6,7,12),([60],7,7,7),([60,61],7,7,8),([62],7,7,9),([62,61],7,7,10),([60,60],8,7,5),([62,62],8,7,6),([43],9,7,3),([45],9,7,4),([42],10,7,0),([47],10,7,1),([37],10,7,2)]
def yZ(b:List UInt8×Int×Int×Int):List UInt8×Nd×Int:=(b.1,⟨b.2.2.1,b.2.2.2,tx []⟩,b.2.1)
theorem y7{b:List UInt8×Int×Int×Int}(hb:b∈jK):yZ b∈fq:=by
 simp only[jK,List.mem_cons,List.not_mem_nil,or_false]at hb;unfold fq;rcases hb with rfl|rfl|rfl|rfl|rfl|rfl|rfl|rfl|rfl|rfl|rfl|rfl|rfl|rfl|rfl|rfl|rfl|rfl <;> simp[yZ]
theorem y9:∀x∈fq.map (·.1),x∈jK.map (·.1):=by decide
theorem zb:∀x∈jK.map (·.1),dV x=true:=by decide
theorem ze{T:Nat->To}{b:List UInt8×Int×Int×Int}(hb:b∈jK)(h:aC T b.1 s=true):gi T s=some (yZ b):=DB (y7 hb) h
theorem vC{T:Nat->To}(h:∀b∈jK,aC T b.1 s=false):gi T s=none:=yY fun o ho=>by
 obtain⟨b,hb,e⟩:=List.mem_map.1 (y9 o.1 (List.mem_map.2 ⟨o,ho,rfl⟩));rw[<-e];exact h b hb
theorem zf:∀b∈jK,1<=b.2.1/\b.2.1<=10:=by decide
end
theorem qp{T:Nat->To}{n:Nat}{s:PS}{r:List St}{s':PS}(h:Pa T (n+1) .st s (.s r) s'):
  (aC T [105,110,116] s=true/\Pa T n (.sg (st0 1 (aS T s.ad).1)) (aS T s.ad).2 (.s r) s') ∨
  (aC T [105,102] s=true/\∃a s1 b s2,Pa T n (.pr [40] [41]) s.ad (.n a) s1/\Pa T n .bl s1 (.s b) s2 /\
   ((aC T [101,108,115,101] s2=false/\r=⟨4,tx [],a,[],(b.length:Int),0⟩::b/\s'=s2) ∨
    (aC T [101,108,115,101] s2=true/\∃c,Pa T n .bl s2.ad (.s c) s'/\r=⟨4,tx [],a,[],(b.length:Int),(c.length:Int)⟩::(b++c)))) ∨
  (aC T [119,104,105,108,101] s=true/\∃a s1 b,Pa T n (.pr [40] [41]) s.ad (.n a) s1/\Pa T n .bl s1 (.s b) s'/\r=⟨5,tx [],a,[],(b.length:Int),0⟩::b) ∨
  (aC T [114,101,116,117,114,110] s=true/\∃a s1,Pa T n (.e 1) s.ad (.n a) s1/\r=[⟨6,tx [],a,[],0,0⟩]/\s'=bq T [59] s1) ∨
  (aC T [111,117,116] s=true/\∃a s1,Pa T n (.pr [40] [41]) s.ad (.n a) s1/\r=[⟨7,tx [],a,[],0,0⟩]/\s'=bq T [59] s1) ∨
  (vr T s/\(
   (aC T [91] (aS T s).2=true/\∃a s1,Pa T n (.pr [91] [93]) (aS T s).2 (.n a) s1/\Pa T n (.sg ⟨3,(aS T s).1,a,[],0,0⟩) s1 (.s r) s') ∨
   (aC T [91] (aS T s).2=false/\aC T [40] (aS T s).2=true/\∃a s1,Pa T n (.ar (aS T s).1) (aS T s).2 (.n a) s1/\r=[⟨8,tx [],a,[],0,0⟩]/\s'=bq T [59] s1) ∨
   (aC T [91] (aS T s).2=false/\aC T [40] (aS T s).2=false/\Pa T n (.sg (st0 2 (aS T s).1)) (aS T s).2 (.s r) s'))):=by
 cases h using Pa_i with
 | sin n s r s' h1 h2=>exact .inl ⟨h1,h2⟩
 | sif n s a s1 b s2 h1 h2 h3 h4=>exact .inr (.inl ⟨h1,a,s1,b,_,h2,h3,.inl ⟨h4,rfl,rfl⟩⟩)
 | sel n s a s1 b s2 c s' h1 h2 h3 h4 h5=>exact .inr (.inl ⟨h1,a,s1,b,s2,h2,h3,.inr ⟨h4,c,h5,rfl⟩⟩)
 | swh n s a s1 b s2 h1 h2 h3=>exact .inr (.inr (.inl ⟨h1,a,s1,b,h2,h3,rfl⟩))
 | sre n s a s' h1 h2=>exact .inr (.inr (.inr (.inl ⟨h1,a,_,h2,rfl,rfl⟩)))
 | sou n s a s' h1 h2=>exact .inr (.inr (.inr (.inr (.inl ⟨h1,a,_,h2,rfl,rfl⟩))))
 | sst n s a s1 r s' h1 h2 h3 h4=>exact .inr (.inr (.inr (.inr (.inr ⟨h1,.inl ⟨h2,a,s1,h3,h4⟩⟩))))
 | sca n s a s' h1 h2 h3 h4=>exact .inr (.inr (.inr (.inr (.inr ⟨h1,.inr (.inl ⟨h2,h3,a,_,h4,rfl,rfl⟩)⟩))))
 | sse n s r s' h1 h2 h3 h4=>exact .inr (.inr (.inr (.inr (.inr ⟨h1,.inr (.inr ⟨h2,h3,h4⟩)⟩))))
section
variable{s s':PS}{n:Nat}{t t':Tr}
def dj(T:Nat->To)(s:PS):ByteArray×PS:=aS T (bq T [105,110,116] s)
def qa(v:Int):Int:=if v=0 then -1 else v
structure TpC (T:Nat->To)(n:Nat)(s:PS)(P:Gl ⊕ Fu→PS→Prop):Prop where
 c_::
 fn(ps:List ByteArray)(s1:PS)(b:List St)(s2:PS):(aC T [40] (dj T s).2=true)→Pa T n (.pl []) (bA T [40] (dj T s).2) (.p ps) s1→Pa T n .bl (cO T [41] s1) (.s b) s2→P (.inr ⟨(dj T s).1,ps,b⟩) s2
 ga:(aC T [40] (dj T s).2=false)→(aC T [91] (dj T s).2=true)→P (.inl ⟨(dj T s).1,qa (fZ T (bA T [91] (dj T s).2)).1⟩) (bq T [59] (cO T [93] (fZ T (bA T [91] (dj T s).2)).2))
 gv:(aC T [40] (dj T s).2=false)→(aC T [91] (dj T s).2=false)→P (.inl ⟨(dj T s).1,0⟩) (bq T [59] (dj T s).2)
structure Tp (T:Nat->To)(n:Nat)(s:PS)(a0:Gl ⊕ Fu)(a1:PS):Prop where
 c_::
 out:∀P,TpC T n s P→P a0 a1
theorem Tp.C{T:Nat->To}{n:Nat}{s:PS}:TpC T n s (Tp T n s):=⟨fun ps s1 b s2 q0 q1 q2=>⟨fun P h=>h.fn ps s1 b s2 q0 q1 q2⟩,
 fun q0 q1=>⟨fun P h=>h.ga q0 q1⟩,
 fun q0 q1=>⟨fun P h=>h.gv q0 q1⟩⟩
abbrev Tp.fn{T:Nat->To}{n:Nat}(s:PS):=(Tp.C:TpC T n s _).fn
abbrev Tp.ga{T:Nat->To}{n:Nat}(s:PS):=(Tp.C:TpC T n s _).ga
abbrev Tp.gv{T:Nat->To}{n:Nat}(s:PS):=(Tp.C:TpC T n s _).gv
theorem Tp_i{T:Nat->To}{n:Nat}{s:PS}{M:∀(a0:Gl ⊕ Fu)(a1:PS),Tp T n s a0 a1→Prop}
 (fn:∀(ps:List ByteArray)(s1:PS)(b:List St)(s2:PS),(aC T [40] (dj T s).2=true)→Pa T n (.pl []) (bA T [40] (dj T s).2) (.p ps) s1→Pa T n .bl (cO T [41] s1) (.s b) s2→∀t,M (.inr ⟨(dj T s).1,ps,b⟩) s2 t)
 (ga:(aC T [40] (dj T s).2=false)→(aC T [91] (dj T s).2=true)→∀t,M (.inl ⟨(dj T s).1,qa (fZ T (bA T [91] (dj T s).2)).1⟩) (bq T [59] (cO T [93] (fZ T (bA T [91] (dj T s).2)).2)) t)
 (gv:(aC T [40] (dj T s).2=false)→(aC T [91] (dj T s).2=false)→∀t,M (.inl ⟨(dj T s).1,0⟩) (bq T [59] (dj T s).2) t)
 {a0:Gl ⊕ Fu}{a1:PS}(t:Tp T n s a0 a1):M a0 a1 t:=
 (t.out (fun a0 a1=>∃z_,M a0 a1 z_) ⟨fun ps s1 b s2 q0 q1 q2=>⟨.fn s ps s1 b s2 q0 q1 q2,fn ps s1 b s2 q0 q1 q2 _⟩,
 fun q0 q1=>⟨.ga s q0 q1,ga q0 q1 _⟩,
 fun q0 q1=>⟨.gv s q0 q1,gv q0 q1 _⟩⟩).2
def ci(t:Tr):Gl ⊕ Fu->Tr
 | .inl g=>⟨t.globals++[g],t.funcs⟩
 | .inr f=>⟨t.globals,t.funcs++[f]⟩
structure PgC (T:Nat->To)(n:Nat)(P:PS→Tr→Tr→PS→Prop):Prop where
 c_::
 done(s:PS)(t:Tr):(s.er≠0∨(T s.i).kind=4)→P s t t s
 more(s:PS)(t:Tr)(x:Gl ⊕ Fu)(s1:PS)(t':Tr)(s':PS):(s.er=0)→((T s.i).kind≠4)→Tp T n s x s1→P s1 (ci t x) t' s'→P s t t' s'
structure Pg (T:Nat->To)(n:Nat)(a0:PS)(a1:Tr)(a2:Tr)(a3:PS):Prop where
 c_::
 out:∀P,PgC T n P→P a0 a1 a2 a3
theorem Pg.C{T:Nat->To}{n:Nat}:PgC T n (Pg T n):=⟨fun s t q0=>⟨fun P h=>h.done s t q0⟩,
 fun s t x s1 t' s' q0 q1 q2 q3=>⟨fun P h=>h.more s t x s1 t' s' q0 q1 q2 (q3.out P h)⟩⟩
abbrev Pg.done {T n}:=(Pg.C:PgC T n _).done
abbrev Pg.more {T n}:=(Pg.C:PgC T n _).more
theorem Pg_i{T:Nat->To}{n:Nat}{M:∀(a0:PS)(a1:Tr)(a2:Tr)(a3:PS),Pg T n a0 a1 a2 a3→Prop}
 (done:∀(s:PS)(t:Tr),(s.er≠0∨(T s.i).kind=4)→∀u,M s t t s u)
 (more:∀(s:PS)(t:Tr)(x:Gl ⊕ Fu)(s1:PS)(t':Tr)(s':PS),(s.er=0)→((T s.i).kind≠4)→Tp T n s x s1→∀q3:Pg T n s1 (ci t x) t' s',M s1 (ci t x) t' s' q3→∀u,M s t t' s' u)
 {a0:PS}{a1:Tr}{a2:Tr}{a3:PS}(u:Pg T n a0 a1 a2 a3):M a0 a1 a2 a3 u:=
 (u.out (fun a0 a1 a2 a3=>∃z_,M a0 a1 a2 a3 z_) ⟨fun s t q0=>⟨.done s t q0,done s t q0 _⟩,
 fun s t x s1 t' s' q0 q1 q2 q3=>⟨.more s t x s1 t' s' q0 q1 q2 q3.1,more s t x s1 t' s' q0 q1 q2 _ q3.2 _⟩⟩).2
def Eo(K:Nat)(f:Fu):Prop:=f.params.length<=6*K+7/\fJ f.body<=6*K+6
def FJ(K:Nat):Gl ⊕ Fu->Prop
 | .inl _=>True
 | .inr f=>Eo K f
structure zg (K:Nat) (k:Nat) (t:Tr):Prop where
 gl:t.globals.length+t.funcs.length+k<=K+1
 fs:∀f∈t.funcs,Eo K f
section
variable{T:Nat->To}{K:Nat}
theorem DC(hT:ft T K)(h:Wf K s):Bg K s (fZ T s).2:=by
 unfold fZ;split
 ·rename_i hi;have:=rM hT h o_ hi.1
  exact⟨this.1,by show Mo K s.ad<=_;omega,fun _=>this.2⟩
 ·have e:=oL (T:=T) (c:=3) d_ s;have e2:=rK (T:=T) (K:=K) (c:=3) d_ s;exact⟨by show(h_ T 3 s).i<=K;rw[e.2];exact h,by show Mo K (h_ T 3 s)<=_;omega,fun h0=>by show Mo K (h_ T 3 s)<_;rw[e2];exact kR h0⟩
theorem DD(hT:ft T K)(h:Wf K s):Bg K s (dj T s).2:=by
 have g1:=gq hT [105,110,116] h;have g2:=oM hT g1.1;have:=g1.2.1
 have:=g2.2.1
 exact⟨g2.1,by show Mo K (aS T _).2<=_;omega,fun h0=>by have:=g1.2.2 h0;show Mo K (aS T _).2<_;omega⟩
theorem zh(hT:ft T K)(hw:Wf K s)(h0:s.er=0):∃x s',Tp T (20*K+40) s x s'/\Wf K s'/\Mo K s'<Mo K s/\FJ K x:=by
 have g:=DD hT hw;have e1:=g.2.2 h0;have hm:=AF hw;cases h4:aC T [40] (dj T s).2 with
 | true=>
  have g1:=kT hT [40] g.1;have e2:=g1.2.1;obtain⟨n1,r1,s1,b1,p1,⟨ps,rfl⟩,w1,l1,-,z1⟩:=rN hT _ (.pl []) _ rfl g1.1;have g2:=kU hT [41] w1;have e3:=g2.2.1;obtain⟨n2,r2,s2,b2,p2,⟨b,rfl⟩,w2,l2,-,z2⟩:=rN hT _ .bl _ rfl g2.1;simp only[PT.rk]at b1 b2;simp only[PR.sz,PT.sz,PT.ex,l_n]at z1 z2;exact⟨_,s2,.fn s ps s1 b s2 h4 (p1.ups o_) (p2.ups o_),w2,o_,by show ps.length<=_;omega,by show fJ b<=_;omega⟩
 | false=>
  cases h9:aC T [91] (dj T s).2 with
  | true=>
   have g1:=kT hT [91] g.1;have g2:=DC hT g1.1;have g3:=kU hT [93] g2.1;have g4:=gq hT [59] g3.1;have:=g1.2.1
   have:=g2.2.1
   have:=g3.2.1
   have:=g4.2.1
   exact⟨_,_,.ga s h4 h9,g4.1,o_,trivial⟩
  | false=>
   have g4:=gq hT [59] g.1;have:=g4.2.1;exact⟨_,_,.gv s h4 h9,g4.1,o_,trivial⟩
theorem zi(hT:ft T K):∀(m:Nat) (s:PS) (t:Tr),Mo K s=m->Wf K s->zg K m t->∃t' s',Pg T (20*K+40) s t t' s'/\Wf K s'/\zg K 0 t':=by
 intro m;induction m using Nat.strongRecOn with
 | ind m ih=>
  intro s t hm hw ht;by_cases hd:s.er≠0∨(T s.i).kind=4
  ·exact⟨t,s,.done s t hd,hw,by have:=ht.gl;omega,ht.fs⟩
  ·have h0:s.er=0:=by
    by_cases h:s.er=0
    ·exact h
    ·exact absurd (.inl h) hd
   have h4:(T s.i).kind≠4:=fun h=>hd (.inr h);obtain⟨x,s1,p1,w1,l1,z1⟩:=zh hT hw h0;have hg:=ht.gl;have Ja:zg K (Mo K s1) (ci t x):=by
    cases x with
    | inl g=>exact⟨by simp only[ci,l_a,List.length_singleton];omega,ht.fs⟩
    | inr f=>
     refine⟨by simp only[ci,l_a,List.length_singleton];omega,fun q hq=>?_⟩;rcases List.mem_append.1 hq with hq|hq
     ·exact ht.fs q hq
     ·simp only[List.mem_singleton]at hq;subst hq;exact z1
   obtain⟨t',s',p2,w2,z2⟩:=ih _ o_ s1 _ rfl w1 Ja;exact⟨t',s',.more s t x s1 t' s' h0 h4 p1 p2,w2,z2⟩
theorem Tp.dm{x:Gl ⊕ Fu}(h:Tp T n s x s'):Dm T s s':=by
 have hh:Dm T s (dj T s).2:=(bQ _ s).trans (gU _);cases h using Tp_i with
 | fn ps s1 b _ h1 h2 h3=>exact((hh.trans (js _ _)).trans h2.dm).trans ((bG _ _).trans h3.dm)
 | ga h1 h2=>exact(((hh.trans (js _ _)).trans (rI _)).trans (bG _ _)).trans (bQ _ _)
 | gv h1 h2=>exact hh.trans (bQ _ _)
theorem Pg.dm(h:Pg T n s t t' s'):Dm T s s':=by
 induction h using Pg_i with
 | done s t h=>exact Dm.refl _
 | more s t x s1 t' s' h0 h4 h1 h2 ih=>exact h1.dm.trans ih
theorem Pg.end4(h:Pg T n s t t' s'):s'.er≠0∨(T s'.i).kind=4:=by
 induction h using Pg_i with
 | done s t h=>exact h
 | more s t x s1 t' s' h0 h4 h1 h2 ih=>exact ih
theorem Pg.grow(h:Pg T n s t t' s'):(∃a,t'.globals=t.globals++a)/\∃b,t'.funcs=t.funcs++b:=by
 induction h using Pg_i with
 | done s t h=>exact⟨⟨[],i_⟩,[],i_⟩
 | more s t x s1 t' s' h0 h4 h1 h2 ih=>
  obtain⟨⟨a,ha⟩,b,hb⟩:=ih;cases x with
  | inl g=>exact⟨⟨[g]++a,by rw[ha];simp[ci]⟩,b,hb⟩
  | inr f=>exact⟨⟨a,ha⟩,[f]++b,by rw[hb];simp[ci]⟩
end
end
section
variable{α:Type}{l r ds:List UInt8}{m i d:Nat}{x:Int}{c:UInt8}
theorem kV{α:Type}(p:α->Bool):∀(r:List α) (d:Nat),d<=r.length->(∀k (hk:k<r.length),k<d->p r[k]=true)->(∀hk:d<r.length,p r[d]=false)->r.takeWhile p=r.take d
 | [],d,_,_,_=>by simp
 | c::r,0,_,_,h2=>by
  have:=h2 i_
  simp only[List.getElem_cons_zero]at this;rw[List.takeWhile_cons,this];simp
 | c::r,d+1,hd,h1,h2=>by
  have h:=h1 0 i_ o_;simp only[List.getElem_cons_zero]at h;rw[List.takeWhile_cons,if_pos h,List.take_succ_cons];rw[kV p r d (by simpa using hd) (fun k hk hkd=>by have:=h1 (k+1) (by simpa using hk) o_;simpa using this) (fun hk=>by have:=h2 (by simpa using hk);simpa using this)]
theorem rQ{α:Type}(p:α->Bool):∀(r:List α) (hk:(r.takeWhile p).length<r.length),p (r[(r.takeWhile p).length]'hk)=false
 | [],h=>absurd h i_
 | c::r,h=>by
  cases hc:p c with
  | false=>simp[List.takeWhile_cons,hc]
  | true=>
   have e:((c::r).takeWhile p).length=(r.takeWhile p).length+1:=by simp[List.takeWhile_cons,hc]
   have h':(r.takeWhile p).length<r.length:=by rw[e]at h;simpa using h
   have:=rQ p r h'
   simp only[e,List.getElem_cons_succ];exact this
theorem rR{α:Type}(p:α->Bool):∀(r:List α) (k:Nat) (hk:k<(r.takeWhile p).length) (hr:k<r.length),p (r[k]'hr)=true
 | [],k,h,_=>absurd h i_
 | c::r,k,h,hr=>by
  cases hc:p c with
  | false=>simp[List.takeWhile_cons,hc]at h
  | true=>
   cases k with
   | zero=>simpa using hc
   | succ k=>
    have e:((c::r).takeWhile p).length=(r.takeWhile p).length+1:=by simp[List.takeWhile_cons,hc]
    have:=rR p r k o_ (by simpa using hr)
    simpa using this
structure Lx (l:List UInt8) (m i:Nat):Prop where
 lo:cw l m<=i
 hi:i<=cw l m+fL (l.drop (cw l m))
 ok:∀k,k<m->(ai l k).kind<=3
theorem Lx.le(h:Lx l m i):i<=l.length:=by
 have h1:=kw (l.drop (cw l m));rw[List.length_drop]at h1;have:=iE l m
 have:=h.hi
 omega
theorem vD(l:List UInt8):Lx l 0 0:=⟨n_,y_,fun k hk=>absurd hk (Nat.not_lt_zero _)⟩
theorem vE(h:Lx l m i)(hi:i<l.length)(hb:dy l[i]=true):Lx l m (i+1):=by
 refine⟨by have:=h.lo;omega,?_,h.ok⟩;by_cases e:i=cw l m+fL (l.drop (cw l m))
 ·exfalso
  have hk:((l.drop (cw l m)).takeWhile dy).length<(l.drop (cw l m)).length:=by
   rw[List.length_drop];show fL _<_;omega
  have h1:=rQ dy (l.drop (cw l m)) hk;rw[List.getElem_drop]at h1;have e2:cw l m+((l.drop (cw l m)).takeWhile dy).length=i:=e.symm;simp only[e2]at h1;rw[hb]at h1;cases h1
 ·have:=h.hi
  omega
theorem DE(h:Lx l m i)(hb:∀hi:i<l.length,dy l[i]=false):i=cw l m+fL (l.drop (cw l m)):=by
 by_cases e:i=cw l m+fL (l.drop (cw l m))
 ·exact e
 ·exfalso
  have h1:=h.hi;have h2:=h.lo;have h3:=kw (l.drop (cw l m));rw[List.length_drop]at h3;have hi:i<l.length:=o_;have hk:i-cw l m<((l.drop (cw l m)).takeWhile dy).length:=by show _<fL _;omega
  have h4:=rR dy (l.drop (cw l m)) (i-cw l m) hk (by rw[List.length_drop];omega);rw[List.getElem_drop]at h4;have e2:cw l m+(i-cw l m)=i:=o_;simp only[e2]at h4;rw[hb hi]at h4;cases h4
theorem vH(h:Lx l m i)(hb:∀hi:i<l.length,dy l[i]=false):ai l m=(bZ (l.drop i) i).1/\cw l (m+1)=i+(bZ (l.drop i) i).2:=by
 have e:=DE h hb;subst e;exact⟨rfl,rfl⟩
theorem Bq(h:Lx l m l.length):ai l m=⟨4,tx [],0,l.length⟩:=by
 have:=(vH h (fun hi=>absurd hi (Nat.lt_irrefl _))).1
 rw[List.drop_length]at this;exact this
theorem zj(h:Lx l m i)(hk:(ai l m).kind<=3):Lx l (m+1) (cw l (m+1)):=
 ⟨n_,Nat.le_add_right _ _,fun k hk'=>by
  by_cases e:k=m
  ·subst e;exact hk
  ·exact h.ok k o_⟩
theorem Lx.count(h:Lx l m i):m<=l.length:=by
 have h1:=mZ l m h.ok;have h2:=iE l m;omega
theorem Br(h:Lx l m i)(hk:4<=(ai l m).kind):ft (ai l) m:=⟨h.ok,hk,fun i=>(dE l i).1⟩
theorem jL(hi:i<l.length):l.drop i=l[i]::l.drop (i+1):=List.drop_eq_getElem_cons hi
theorem vI(hi:i<l.length)(hf:cG l[i]=true)(ht:(l.drop i).takeWhile cJ=(l.drop i).take d)(hd:d<=(l.drop i).length):
  bZ (l.drop i) i=if 20<d then(⟨5,tx [],0,i⟩,0)else(⟨1,tx ((l.drop i).take d),0,i⟩,d):=by
 have hl:((l.drop i).take d).length=d:=by rw[List.length_take];omega
 rw[<-ht]at hl;rw[<-ht];generalize hr:l.drop i=r at*;have hc:=jL hi;rw[hr]at hc;rw[hc]at hl⊢;unfold bZ;simp only[hf,if_true,hl]
theorem zk(hi:i<l.length)(hf:cG l[i]=false)(hg:aO l[i]=true)(ht:(l.drop i).takeWhile aO=(l.drop i).take d)(hd:d<=(l.drop i).length):
  bZ (l.drop i) i=if (l[i]=48/\1<d)∨2147483647<numL ((l.drop i).take d)∨((l.drop (i+d)).head?.map cG).getD false=true then(⟨5,tx [],0,i⟩,0)else(⟨2,tx [],(numL ((l.drop i).take d):Int),i⟩,d):=by
 have hl:((l.drop i).take d).length=d:=by rw[List.length_take];omega
 have e3:l.drop (i+d)=(l.drop i).drop d:=by rw[List.drop_drop]
 rw[e3];rw[<-ht]at hl;rw[<-ht];generalize hr:l.drop i=r at*;have hc:=jL hi;rw[hr]at hc;rw[hc]at hl⊢;unfold bZ;simp only[hf,hg,if_true,hl,Bool.false_eq_true,if_false]
theorem zl(hi:i<l.length)(hf:cG l[i]=false)(hg:aO l[i]=false):
  bZ (l.drop i) i=if bD (l.drop i)=[]then(⟨5,tx [],0,i⟩,0)else(⟨3,tx (bD (l.drop i)),0,i⟩,(bD (l.drop i)).length):=by
 generalize hr:l.drop i=r at*;have hc:=jL hi;rw[hr]at hc;rw[hc];unfold bZ;simp only[hf,hg,Bool.false_eq_true,if_false]
def cr:List (List UInt8):=ew++fK.map (fun c=>[c])
theorem ic:cr.length=29:=rfl
theorem oN:∀j:Nat,j<8->(cr.getD j []).length=2/\cr.getD j []∈ew:=by decide
theorem oO:∀j:Nat,j<29->8<=j->(cr.getD j []).length=1/\cr.getD j []∈fK.map (fun c=>[c]):=by decide
theorem ng(j:Nat)(hj:j<cr.length):cr.getD j []=cr[j]:=by simp[List.getD,List.getElem?_eq_getElem hj]
theorem zm{k:Nat}(hk:k<cr.length)(Jb:∀j (hj:j<cr.length),j<k->r.take (cr[j]).length≠cr[j])(h:r.take (cr[k]).length=cr[k]):bD r=cr[k]:=by
 have m2:∀j (hl:j<cr.length),j<8->(cr[j]).length=2/\cr[j]∈ew:=fun j hl hj=>by rw[<-ng j hl];exact oN j hj
 have m1:∀j (hl:j<cr.length),8<=j->(cr[j]).length=1/\cr[j]∈fK.map (fun c=>[c]):=fun j hl hj=>by rw[<-ng j hl];exact oO j hl hj
 by_cases h8:k<8
 ·have:=m2 k hk h8
  rw[this.1]at h;unfold bD;rw[if_pos (by rw[h];exact this.2),h]
 ·have:=m1 k hk o_
  rw[this.1]at h;unfold bD;rw[if_neg,if_pos (by rw[h];exact this.2),h];intro hm;obtain⟨j,hj,e⟩:=List.getElem_of_mem hm;have Ja:j<8:=hj;have e2:cr[j]'(by rw[ic];omega)=ew[j]'hj:=by
   unfold cr;rw[List.getElem_append_left]
  exact Jb j (by rw[ic];omega) o_ (by rw[(m2 j (by rw[ic];omega) Ja).1,e2,e])
theorem Bt(Jb:∀j (hj:j<cr.length),r.take (cr[j]).length≠cr[j]):bD r=[]:=by
 have Ja:∀x∈cr,r.take x.length≠x:=fun x hx=>by
  obtain⟨j,hj,rfl⟩:=List.getElem_of_mem hx;exact Jb j hj
 unfold bD;have l2:∀x∈ew,x.length=2:=d_;have l1:∀x∈fK.map (fun c=>[c]),x.length=1:=d_;rw[if_neg,if_neg]
 ·intro hm;have h1:=l1 _ hm;have:=Ja _ (List.mem_append.2 (.inr hm))
  rw[h1]at this;exact this rfl
 ·intro hm;have h1:=l2 _ hm;have:=Ja _ (List.mem_append.2 (.inl hm))
  rw[h1]at this;exact this rfl
theorem jM(ds:List UInt8)(c:UInt8):numL (ds++[c])=10*numL ds+(c.toNat-48):=by
 unfold numL;rw[List.foldl_append];rfl
def jt(ds:List UInt8)(x:Int):Prop:=(x=(numL ds:Int)/\x<100000000000)∨(10000000000<=x/\x<100000000000/\10000000000<=numL ds)
theorem vJ:jt [] 0:=.inl ⟨rfl,o_⟩
theorem zo(h:jt ds x):0<=x/\x<100000000000:=by
 rcases h with⟨rfl,h⟩|⟨h1,h2,-⟩ <;> omega
theorem tf(h:jt ds x)(hc:aO c=true)(hx:x<10000000000):jt (ds++[c]) (10*x+(cI c-48)):=by
 unfold aO digitB cI at hc;simp only[decide_eq_true_eq]at hc;unfold cI;rcases h with⟨rfl,h⟩|⟨h1,h2,h3⟩
 ·left
  rw[jM];constructor <;> omega
 ·omega
theorem tg(h:jt ds x)(hx:¬x<10000000000):jt (ds++[c]) x:=by
 right
 rw[jM];rcases h with⟨h0,h⟩|⟨h1,h2,h3⟩
 ·exact⟨o_,o_,o_⟩
 ·exact⟨o_,o_,o_⟩
theorem oP(h:jt ds x):(2147483647<x↔2147483647<numL ds)/\(x<=2147483647->x=(numL ds:Int)):=by
 rcases h with⟨rfl,h⟩|⟨h1,h2,h3⟩
 ·exact⟨o_,fun _=>rfl⟩
 ·exact⟨o_,fun h=>by omega⟩
end
end Go.Proofs.YtlamjfhhefcohaaGreatDoor
