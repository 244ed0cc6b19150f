import Derived.Test.YtngnoopnloojjaaGreatDoorQ05
import Derived.Deep.Cut
namespace Go.Proofs.YtngnoopnloojjaaGreatDoor
open List
set_option linter.all false
set_option maxRecDepth 100000
set_option maxHeartbeats 0
section
open Go.RowKit
def str_eq(a b:IF):(a.toList == b.toList)=decide (a=b):=by
 by_cases h:a=b
 ·subst h;simp
 ·rw[decide_eq_false h,beq_eq_false_iff_ne];intro e;rw[ByteArray.toList_eq,ByteArray.toList_eq]at e;exact h (ByteArray.ext (Array.ext' e))
def toV(t:To):BY:=.agg #[V t.kd,sV t.text,V t.num,V (t.pl:Int)]
end
section
open Go.RowKit
def jL{T:Nat->To}(x:List UInt8)(s:PS):(fM T x s).op=s.op:=by
 unfold fM Dn PS.ad
 (repeat' split) <;> rfl
def JK{T:Nat->To}(c:Int)(s:PS):(Dn T c s).op=s.op:=by
 unfold Dn;split <;> rfl
end
section
section
variable{n:Nat}{k:PT}{s s':PS}{r:PR}
variable{T:Nat->To}
def on_op(x:List UInt8)(s:PS):(dP T x s).op=s.op+1:=by
 unfold dP;dsimp only;rw[jL];split
 ·rw[JK]
 ·rfl
def vA(x:List UInt8)(s:PS):(iz T x s).op=s.op-1:=by
 unfold iz;dsimp only;rw[jL]
def na_op(s:PS):(cW T s).2.op=s.op:=by
 unfold cW;split
 ·rfl
 ·exact JK _ _
def ad_op(s:PS):s.ad.op=s.op:=rfl
theorem Pa.op(h:Pa T n k s r s'):s'.op=s.op:=by
 induction h with
 | ex n m s a s1 r s' h1 h2 i1 i2=>rw[i2,i1]
 | lpd n m o s h1=>rfl
 | lps n m o s h1 h2=>rfl
 | lpm n m o s x a s1 r s' h1 h2 h3 h4 h5 i4 i5=>rw[i5,i4,ad_op]
 | oun n k hk s a s' h1 h2 h3 i3=>show s'.op-1=s.op;rw[i3,on_op];omega
 | oud n k hk s h1 h2=>show(dP T _ s).op-1=s.op;rw[on_op];omega
 | prd n x y s h1=>rw[vA,on_op];omega
 | pre n x y s a s' h1 h2 i2=>rw[vA,i2,on_op];omega
 | opa n s r s' h1 h2 i2=>exact i2
 | oin n s h1=>rw[vA,on_op,ad_op];omega
 | onu n s h1 h2=>rfl
 | oix n s a s' h1 h2 h3 i3=>rw[i3,na_op]
 | oca n s r s' h1 h2 h3 h4 i4=>rw[i4,na_op]
 | ova n s h1 h2 h3=>exact na_op s
 | arg n x s a k s' h1 i1=>rw[vA,i1,on_op];omega
 | ald n k o s h1=>rfl
 | al0 n k o s h1 h0 h2=>rfl
 | ale n k o s a s' h1 h2 h3 h4 i3=>exact i3
 | alm n k o s a s1 r s' h1 h2 h3 h4 h5 i3 i5=>rw[i5,ad_op,i3]
 | blk n s a s' h1 i1=>rw[vA,i1,on_op];omega
 | bsd n o s h1=>rfl
 | bsm n o s a s1 r s' h1 h2 h3 h4 i3 i4=>rw[i4,i3]
 | sgd n t s h1=>rw[jL,jL]
 | sge n t s a s' h1 h2 i2=>rw[jL,i2,jL]
 | sin n s r s' h1 h2 i2=>rw[i2,na_op,ad_op]
 | sif n s a s1 b s2 h1 h2 h3 h4 i2 i3=>rw[i3,i2,ad_op]
 | sel n s a s1 b s2 c s' h1 h2 h3 h4 h5 i2 i3 i5=>rw[i5,ad_op,i3,i2,ad_op]
 | swh n s a s1 b s2 h1 h2 h3 i2 i3=>rw[i3,i2,ad_op]
 | sre n s a s' h1 h2 i2=>rw[jL,i2,ad_op]
 | sou n s a s' h1 h2 i2=>rw[jL,i2,ad_op]
 | sst n s a s1 r s' h1 h2 h3 h4 i3 i4=>rw[i4,i3,na_op]
 | sca n s a s' h1 h2 h3 h4 i4=>rw[jL,i4,na_op]
 | sse n s r s' h1 h2 h3 h4 i4=>rw[i4,na_op]
 | pld n o s h1=>rfl
 | ple n o s h1 h2 h3=>rw[na_op,jL]
 | plm n o s r s' h1 h2 h3 h4 i4=>rw[i4,ad_op,na_op,jL]
def PT.acc:PT->Nat
 | .lp _ q=>q.length
 | .al _ q=>q.length
 | .bs q=>oy q
 | .pl q=>q.length
 | _=>0
theorem Pa.acc(h:Pa T n k s r s'):k.acc<=r.sz:=by
 induction h with
 | lpd n m o s h1=>exact n_
 | lps n m o s h1 h2=>exact n_
 | lpm n m o s x a s1 r s' h1 h2 h3 h4 h5 i4 i5=>simp only[PT.acc,l_a,length_singleton]at i5⊢;omega
 | ald n k o s h1=>exact n_
 | al0 n k o s h1 h0 h2=>exact n_
 | ale n k o s a s' h1 h2 h3 h4 i3=>simp only[PT.acc,PR.sz,l_a];omega
 | alm n k o s a s1 r s' h1 h2 h3 h4 h5 i3 i5=>simp only[PT.acc,l_a]at i5⊢;omega
 | bsd n o s h1=>exact n_
 | bsm n o s a s1 r s' h1 h2 h3 h4 i3 i4=>simp only[PT.acc,Ar]at i4⊢;omega
 | pld n o s h1=>exact n_
 | ple n o s h1 h2 h3=>simp only[PT.acc,PR.sz,l_a];omega
 | plm n o s r s' h1 h2 h3 h4 i4=>simp only[PT.acc,l_a]at i4⊢;omega
 | _=>exact y_
end
end
end Go.Proofs.YtngnoopnloojjaaGreatDoor
