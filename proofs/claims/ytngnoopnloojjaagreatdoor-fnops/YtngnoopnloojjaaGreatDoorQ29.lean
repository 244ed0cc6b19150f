import Derived.Test.YtngnoopnloojjaaGreatDoorQ01
import Derived.WalkSpells
import Derived.BigQuiet
namespace Go.Proofs.YtngnoopnloojjaaGreatDoor
open Go.RowKit
set_option linter.all false
set_option maxRecDepth 100000
set_option maxHeartbeats 0
variable[Inhabited Pick]
variable{w w':AT}{S S':DO}{v:BY}{r:List Nd}
def gx(w:AT)(S:DO)(v:BY)(A:Nat)(vs:Nat->BY):Prop:=∃a cap,v=.slice a A cap/\A<=cap/\cap<=9223372036854775807/\(0<A->∃B,a=some ⟨B,0,none⟩/\S B/\∀i,i<A->w.cell? ⟨B,i,none⟩=some (vs i))
structure TvC (w:AT)(S:DO)(P:BY->List Nd->Prop):Prop where
 c_::
 num:∀v,P (.iface 100 (.agg #[.int .i64 v])) [⟨1,v,⟨#[]⟩⟩]
 var:∀s,P (.iface 169 (.agg #[.string s])) [⟨2,0,s⟩]
 index:∀s x r,P x r->P (.iface 171 (.agg #[.string s,x])) (r++[⟨3,0,s⟩])
 call:∀s ar A(vs:Nat->BY)(F:Nat->List Nd),gx w S ar A vs->(∀i,i<A->P (vs i) (F i))->P (.iface 173 (.agg #[.string s,ar])) (joinF F A++[⟨4,A,s⟩])
 inn:P (.iface 176 (.agg #[])) [⟨5,0,⟨#[]⟩⟩]
 un:∀op x r,P x r->P (.iface 98 (.agg #[.int .i64 op,x])) (r++[⟨6,op,⟨#[]⟩⟩])
 bin:∀op x y r t,P x r->P y t->P (.iface 104 (.agg #[.int .i64 op,x,y])) (r++t++[⟨7,op,⟨#[]⟩⟩])
 and:∀x y r t,P x r->P y t->P (.iface 107 (.agg #[x,y])) (r++t++[⟨8,0,⟨#[]⟩⟩])
 or:∀x y r t,P x r->P y t->P (.iface 109 (.agg #[x,y])) (r++t++[⟨9,0,⟨#[]⟩⟩])
structure Tv (w:AT)(S:DO)(a0:BY)(a1:List Nd):Prop where
 c_::
 out:∀P,TvC w S P->P a0 a1
theorem Tv.C{w:AT}{S:DO}:TvC w S (Tv w S):=⟨λv=>⟨λP h=>h.num v⟩,
 λs=>⟨λP h=>h.var s⟩,
 λs x r q0=>⟨λP h=>h.index s x r (q0.out P h)⟩,
 λs ar A vs F q0 q1=>⟨λP h=>h.call s ar A vs F q0 (λi o0=>(q1 i o0).out P h)⟩,
 ⟨λP h=>h.inn⟩,
 λop x r q0=>⟨λP h=>h.un op x r (q0.out P h)⟩,
 λop x y r t q0 q1=>⟨λP h=>h.bin op x y r t (q0.out P h) (q1.out P h)⟩,
 λx y r t q0 q1=>⟨λP h=>h.and x y r t (q0.out P h) (q1.out P h)⟩,
 λx y r t q0 q1=>⟨λP h=>h.or x y r t (q0.out P h) (q1.out P h)⟩⟩
abbrev Tv.num {w S}:=(Tv.C:TvC w S _).num
abbrev Tv.var {w S}:=(Tv.C:TvC w S _).var
abbrev Tv.index {w S}:=(Tv.C:TvC w S _).index
abbrev Tv.call {w S}:=(Tv.C:TvC w S _).call
abbrev Tv.inn {w S}:=(Tv.C:TvC w S _).inn
abbrev Tv.un {w S}:=(Tv.C:TvC w S _).un
abbrev Tv.bin {w S}:=(Tv.C:TvC w S _).bin
abbrev Tv.and {w S}:=(Tv.C:TvC w S _).and
abbrev Tv.or {w S}:=(Tv.C:TvC w S _).or
theorem Tv_i{w:AT}{S:DO}{M:∀(a0:BY)(a1:List Nd),Tv w S a0 a1->Prop}
 (num:∀v,∀u,M (.iface 100 (.agg #[.int .i64 v])) [⟨1,v,⟨#[]⟩⟩] u)
 (var:∀s,∀u,M (.iface 169 (.agg #[.string s])) [⟨2,0,s⟩] u)
 (index:∀s x r,∀q0:Tv w S x r,M x r q0->∀u,M (.iface 171 (.agg #[.string s,x])) (r++[⟨3,0,s⟩]) u)
 (call:∀s ar A(vs:Nat->BY)(F:Nat->List Nd),gx w S ar A vs->∀q1:∀i,i<A->Tv w S (vs i) (F i),(∀ i (o0 : i<A),M (vs i) (F i) (q1 i o0))->∀u,M (.iface 173 (.agg #[.string s,ar])) (joinF F A++[⟨4,A,s⟩]) u)
 (inn:∀u,M (.iface 176 (.agg #[])) [⟨5,0,⟨#[]⟩⟩] u)
 (un:∀op x r,∀q0:Tv w S x r,M x r q0->∀u,M (.iface 98 (.agg #[.int .i64 op,x])) (r++[⟨6,op,⟨#[]⟩⟩]) u)
 (bin:∀op x y r t,∀q0:Tv w S x r,∀q1:Tv w S y t,M x r q0->M y t q1->∀u,M (.iface 104 (.agg #[.int .i64 op,x,y])) (r++t++[⟨7,op,⟨#[]⟩⟩]) u)
 (and:∀x y r t,∀q0:Tv w S x r,∀q1:Tv w S y t,M x r q0->M y t q1->∀u,M (.iface 107 (.agg #[x,y])) (r++t++[⟨8,0,⟨#[]⟩⟩]) u)
 (or:∀x y r t,∀q0:Tv w S x r,∀q1:Tv w S y t,M x r q0->M y t q1->∀u,M (.iface 109 (.agg #[x,y])) (r++t++[⟨9,0,⟨#[]⟩⟩]) u)
 {a0:BY}{a1:List Nd}(u:Tv w S a0 a1):M a0 a1 u:=
 (u.out (λa0 a1=>∃z_,M a0 a1 z_) ⟨λv=>⟨.num v,num v _⟩,
 λs=>⟨.var s,var s _⟩,
 λs x r q0=>⟨.index s x r q0.1,index s x r _ q0.2 _⟩,
 λs ar A vs F q0 q1=>⟨.call s ar A vs F q0 (λi o0=>(q1 i o0).1),call s ar A vs F q0 _ (λi o0=>(q1 i o0).2) _⟩,
 ⟨.inn,inn _⟩,
 λop x r q0=>⟨.un op x r q0.1,un op x r _ q0.2 _⟩,
 λop x y r t q0 q1=>⟨.bin op x y r t q0.1 q1.1,bin op x y r t _ _ q0.2 q1.2 _⟩,
 λx y r t q0 q1=>⟨.and x y r t q0.1 q1.1,and x y r t _ _ q0.2 q1.2 _⟩,
 λx y r t q0 q1=>⟨.or x y r t q0.1 q1.1,or x y r t _ _ q0.2 q1.2 _⟩⟩).2
def gx.keep{A:Nat}{I:Nat->BY}(h:gx w S v A I)(X:∀B,S B->S' B)(U:∀B,S B->w'.heap[B]? =w.heap[B]?):gx w' S' v A I:=by obtain⟨a,Ja,rfl,J,h2,h⟩:=h;refine⟨a,Ja,rfl,J,h2,λh0=>?_⟩;obtain⟨B,rfl,H,O⟩:=h h0;exact⟨B,rfl,X B H,λi hi=>(c_ (a:=⟨B,i,none⟩) (U B H)).trans (O i hi)⟩
theorem Tv.keep(h:Tv w S v r)(I:∀B,S B->S' B)(H:∀B,S B->w'.heap[B]? =w.heap[B]?):Tv w' S' v r:=by
 induction h using Tv_i with
 | num v=>exact .num v
 | var s=>exact .var s
 | index s x r _ ih=>exact .index s x r ih
 | call s ar A vs F ha _ ih=>exact .call s ar A vs F (ha.keep I H) ih
 | inn=>exact .inn
 | un op x r _ ih=>exact .un op x r ih
 | bin op x y r t _ _ ih1 ih2=>exact .bin op x y r t ih1 ih2
 | and x y r t _ _ ih1 ih2=>exact .and x y r t ih1 ih2
 | or x y r t _ _ ih1 ih2=>exact .or x y r t ih1 ih2
def Tv.pos(h:Tv w S v r):0<r.length:=by cases h using Tv_i <;> simp <;> omega
def Tv.isI(h:Tv w S v r):∃t x,v=.iface t x:=by cases h using Tv_i <;> exact⟨_,_,rfl⟩
theorem Tv.some{x:Int}(h:Tv w S v r)(H:gI r=some x):v=.iface 100 (.agg #[V x]):=by
 cases h using Tv_i with
 | num v=>simp[gI]at H;rw[H]
 | var s=>simp[gI]at H
 | index s x r h=>exfalso;have:=h.pos;cases r with
  | nil=>simp at this
  | cons a l=>cases l <;> simp[gI]at H
 | call s ar A vs F _ _=>exfalso;cases hj:joinF F A with
  | nil=>rw[hj]at H;simp[gI]at H
  | cons a l=>rw[hj]at H;cases l <;> simp[gI]at H
 | inn=>simp[gI]at H
 | un op x r h=>exfalso;have:=h.pos;cases r with
  | nil=>simp at this
  | cons a l=>cases l <;> simp[gI]at H
 | bin op x y r t h1 h2=>exfalso;have:=h1.pos;cases r with
  | nil=>simp at this
  | cons a l=>cases l <;> cases t <;> simp[gI]at H
 | and x y r t h1 h2=>exfalso;have:=h1.pos;cases r with
  | nil=>simp at this
  | cons a l=>cases l <;> cases t <;> simp[gI]at H
 | or x y r t h1 h2=>exfalso;have:=h1.pos;cases r with
  | nil=>simp at this
  | cons a l=>cases l <;> cases t <;> simp[gI]at H
theorem Tv.none(h:Tv w S v r)(H:gI r=none):∃t x,v=.iface t x/\t≠100:=by
 cases h using Tv_i with
 | num v=>simp[gI]at H
 | _=>exact⟨_,_,rfl,d_⟩
end Go.Proofs.YtngnoopnloojjaaGreatDoor
