import Derived.Test.YtngnoopnloojjaaGreatDoorQ05
import Derived.Deep.Cut
namespace Go.Proofs.YtngnoopnloojjaaGreatDoor
open List
set_option linter.all false
set_option maxRecDepth 100000
set_option maxHeartbeats 0
variable[Inhabited Pick]
section
open Go.RowKit
def str_eq(a b:IF):(a.toList == b.toList)=decide (a=b):=by by_cases h:a=b;subst h;simp;rw[decide_eq_false h,beq_eq_false_iff_ne];intro e;rw[ByteArray.toList_eq,ByteArray.toList_eq]at e;exact h (ByteArray.ext (Array.ext' e))
def toV(t:To):BY:=.agg #[V t.kd,sV t.text,V t.num,V (t.pl:Int)]
end
section
open Go.RowKit
def jL{T:Nat->To}(x:List UInt8)(s:PS):(fM T x s).op=s.op:=by
 unfold fM Dn PS.ad
 (repeat' split) <;> rfl
def JK{T:Nat->To}(c:Int)(s:PS):(Dn T c s).op=s.op:=by unfold Dn;split <;> rfl
end
section
section
variable{n:Nat}{k:PT}{s s':PS}{r:PR}
variable{T:Nat->To}
def on_op(x:List UInt8)(s:PS):(dP T x s).op=s.op+1:=by unfold dP;dsimp only;rw[jL];split;rw[JK];rfl
def vA(x:List UInt8)(s:PS):(iz T x s).op=s.op-1:=by unfold iz;dsimp only;rw[jL]
def na_op(s:PS):(cW T s).2.op=s.op:=by unfold cW;split;rfl;exact JK _ _
def ad_op(s:PS):s.ad.op=s.op:=rfl
theorem Pa.op(h:Pa T n k s r s'):s'.op=s.op:=by induction h using Pa_i <;> first|rfl|(simp only[vA,jL,on_op,ad_op,na_op, *];done)|(simp only[vA,jL,on_op,ad_op,na_op, *];omega)
def PT.acc:PT->Nat
 | .inr (.inl (_, q)) =>q.length
 | .inr (.inr (.inr (.inr (.inr (.inl (_, q)))))) =>q.length
 | .inr (.inr (.inr (.inr (.inr (.inr (.inr (.inl q))))))) =>oy q
 | .inr (.inr (.inr (.inr (.inr (.inr (.inr (.inr (.inr (.inr q))))))))) =>q.length
 | _=>0
theorem Pa.acc(h:Pa T n k s r s'):k.acc<=r.sz:=by
 induction h using Pa_i with
 | lpd n m o s h1=>exact n_
 | lps n m o s h1 h2=>exact n_
 | lpm n m o s x a s1 r s' h1 h2 h3 h4 h5 i4 i5=>simp only[PT.acc,l_a,length_singleton]at i5⊢;omega
 | ald n k o s h1=>exact n_
 | al0 n k o s h1 h0 h2=>exact n_
 | ale n k o s a s' h1 h2 h3 h4 i3=>simp only[PT.acc,PR.sz,l_a];omega
 | alm n k o s a s1 r s' h1 h2 h3 h4 h5 i3 i5=>simp only[PT.acc,l_a]at i5⊢;omega
 | bsd n o s h1=>exact n_
 | bsm n o s a s1 r s' h1 h2 h3 h4 i3 i4=>simp only[PT.acc,Ar]at i4⊢;omega
 | pld n o s h1=>exact n_
 | ple n o s h1 h2 h3=>simp only[PT.acc,PR.sz,l_a];omega
 | plm n o s r s' h1 h2 h3 h4 i4=>simp only[PT.acc,l_a]at i4⊢;omega
 | _=>exact y_
end
end
end Go.Proofs.YtngnoopnloojjaaGreatDoor
