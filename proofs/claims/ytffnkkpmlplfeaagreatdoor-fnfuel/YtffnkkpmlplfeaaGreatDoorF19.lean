import Derived.Test.YtffnkkpmlplfeaaGreatDoorF00
import Derived.WalkSpells
import Derived.BigQuiet
namespace Go.Proofs.YtffnkkpmlplfeaaGreatDoor
open Go.RowKit
set_option linter.all false
set_option maxRecDepth 100000
set_option maxHeartbeats 0
variable[Inhabited Pick]
variable{w w':AT}{S S':D6}{v:BY}{r:List Nd}
def fY(w:AT)(S:D6)(v:BY)(A:Nat)(vs:Nat->BY):Prop:=∃a cap,v=.slice a A cap/\A<=cap/\cap<=9223372036854775807/\(0<A->∃B,a=some ⟨B,0,none⟩/\S B/\∀i,i<A->w.cell? ⟨B,i,none⟩=some (vs i))
structure TvC (w:AT)(S:D6)(P:BY→List Nd→Prop):Prop where
 c_::
 num(v:Int):P (.iface 236 (.agg #[.int .i64 v])) [⟨1,v,⟨#[]⟩⟩]
 var(s:GA):P (.iface 264 (.agg #[.string s])) [⟨2,0,s⟩]
 index(s:GA)(x:BY)(r:List Nd):P x r→P (.iface 266 (.agg #[.string s,x])) (r++[⟨3,0,s⟩])
 call(s:GA)(ar:BY)(A:Nat)(vs:Nat->BY)(F:Nat->List Nd):fY w S ar A vs→(∀i,i<A->P (vs i) (F i))→P (.iface 268 (.agg #[.string s,ar])) (eU F A++[⟨4,A,s⟩])
 inn:P (.iface 277 (.agg #[])) [⟨5,0,⟨#[]⟩⟩]
 un(op:Int)(x:BY)(r:List Nd):P x r→P (.iface 270 (.agg #[.int .i64 op,x])) (r++[⟨6,op,⟨#[]⟩⟩])
 bin(op:Int)(x y:BY)(r t:List Nd):P x r→P y t→P (.iface 272 (.agg #[.int .i64 op,x,y])) (r++t++[⟨7,op,⟨#[]⟩⟩])
 and(x y:BY)(r t:List Nd):P x r→P y t→P (.iface 274 (.agg #[x,y])) (r++t++[⟨8,0,⟨#[]⟩⟩])
 or(x y:BY)(r t:List Nd):P x r→P y t→P (.iface 275 (.agg #[x,y])) (r++t++[⟨9,0,⟨#[]⟩⟩])
structure Tv (w:AT)(S:D6)(a0:BY)(a1:List Nd):Prop where
 c_::
 out:∀P,TvC w S P→P a0 a1
theorem Tv.C{w:World}{S:Nat->Prop}:TvC w S (Tv w S):=⟨fun v=>⟨fun P h=>h.num v⟩,
 fun s=>⟨fun P h=>h.var s⟩,
 fun s x r q0=>⟨fun P h=>h.index s x r (q0.out P h)⟩,
 fun s ar A vs F q0 q1=>⟨fun P h=>h.call s ar A vs F q0 (fun i o0=>(q1 i o0).out P h)⟩,
 ⟨fun P h=>h.inn⟩,
 fun op x r q0=>⟨fun P h=>h.un op x r (q0.out P h)⟩,
 fun op x y r t q0 q1=>⟨fun P h=>h.bin op x y r t (q0.out P h) (q1.out P h)⟩,
 fun x y r t q0 q1=>⟨fun P h=>h.and x y r t (q0.out P h) (q1.out P h)⟩,
 fun x y r t q0 q1=>⟨fun P h=>h.or x y r t (q0.out P h) (q1.out P h)⟩⟩
abbrev Tv.num {w S}:=(Tv.C:TvC w S _).num
abbrev Tv.var {w S}:=(Tv.C:TvC w S _).var
abbrev Tv.index {w S}:=(Tv.C:TvC w S _).index
abbrev Tv.call {w S}:=(Tv.C:TvC w S _).call
abbrev Tv.inn {w S}:=(Tv.C:TvC w S _).inn
abbrev Tv.un {w S}:=(Tv.C:TvC w S _).un
abbrev Tv.bin {w S}:=(Tv.C:TvC w S _).bin
abbrev Tv.and {w S}:=(Tv.C:TvC w S _).and
abbrev Tv.or {w S}:=(Tv.C:TvC w S _).or
theorem Tv_i{w:World}{S:Nat->Prop}{M:∀(a0:Value)(a1:List Nd),Tv w S a0 a1→Prop}
 (num:∀(v:Int),∀u,M (.iface 236 (.agg #[.int .i64 v])) [⟨1,v,⟨#[]⟩⟩] u)
 (var:∀(s:ByteArray),∀u,M (.iface 264 (.agg #[.string s])) [⟨2,0,s⟩] u)
 (index:∀(s:ByteArray)(x:Value)(r:List Nd),∀q0:Tv w S x r,M x r q0→∀u,M (.iface 266 (.agg #[.string s,x])) (r++[⟨3,0,s⟩]) u)
 (call:∀(s:ByteArray)(ar:Value)(A:Nat)(vs:Nat->Value)(F:Nat->List Nd),fY w S ar A vs→∀q1:∀i,i<A->Tv w S (vs i) (F i),(∀ i (o0 : i<A),M (vs i) (F i) (q1 i o0))→∀u,M (.iface 268 (.agg #[.string s,ar])) (eU F A++[⟨4,A,s⟩]) u)
 (inn:∀u,M (.iface 277 (.agg #[])) [⟨5,0,⟨#[]⟩⟩] u)
 (un:∀(op:Int)(x:Value)(r:List Nd),∀q0:Tv w S x r,M x r q0→∀u,M (.iface 270 (.agg #[.int .i64 op,x])) (r++[⟨6,op,⟨#[]⟩⟩]) u)
 (bin:∀(op:Int)(x y:Value)(r t:List Nd),∀q0:Tv w S x r,∀q1:Tv w S y t,M x r q0→M y t q1→∀u,M (.iface 272 (.agg #[.int .i64 op,x,y])) (r++t++[⟨7,op,⟨#[]⟩⟩]) u)
 (and:∀(x y:Value)(r t:List Nd),∀q0:Tv w S x r,∀q1:Tv w S y t,M x r q0→M y t q1→∀u,M (.iface 274 (.agg #[x,y])) (r++t++[⟨8,0,⟨#[]⟩⟩]) u)
 (or:∀(x y:Value)(r t:List Nd),∀q0:Tv w S x r,∀q1:Tv w S y t,M x r q0→M y t q1→∀u,M (.iface 275 (.agg #[x,y])) (r++t++[⟨9,0,⟨#[]⟩⟩]) u)
 {a0:Value}{a1:List Nd}(u:Tv w S a0 a1):M a0 a1 u:=
 (u.out (fun a0 a1=>∃z_,M a0 a1 z_) ⟨fun v=>⟨.num v,num v _⟩,
 fun s=>⟨.var s,var s _⟩,
 fun s x r q0=>⟨.index s x r q0.1,index s x r _ q0.2 _⟩,
 fun s ar A vs F q0 q1=>⟨.call s ar A vs F q0 (fun i o0=>(q1 i o0).1),call s ar A vs F q0 _ (fun i o0=>(q1 i o0).2) _⟩,
 ⟨.inn,inn _⟩,
 fun op x r q0=>⟨.un op x r q0.1,un op x r _ q0.2 _⟩,
 fun op x y r t q0 q1=>⟨.bin op x y r t q0.1 q1.1,bin op x y r t _ _ q0.2 q1.2 _⟩,
 fun x y r t q0 q1=>⟨.and x y r t q0.1 q1.1,and x y r t _ _ q0.2 q1.2 _⟩,
 fun x y r t q0 q1=>⟨.or x y r t q0.1 q1.1,or x y r t _ _ q0.2 q1.2 _⟩⟩).2
def fY.keep{A:Nat}{vs:Nat->BY}(h:fY w S v A vs)(hS:∀B,S B->S' B)(Z:∀B,S B->w'.heap[B]? =w.heap[B]?):fY w' S' v A vs:=by
 obtain⟨a,J,rfl,U,h2,h⟩:=h;refine⟨a,J,rfl,U,h2,λh0=>?_⟩;obtain⟨B,rfl,I,Y⟩:=h h0;exact⟨B,rfl,hS B I,λi hi=>(c_ (a:=⟨B,i,none⟩) (Z B I)).trans (Y i hi)⟩
theorem Tv.keep(h:Tv w S v r)(J:∀B,S B->S' B)(I:∀B,S B->w'.heap[B]? =w.heap[B]?):Tv w' S' v r:=by
 induction h using Tv_i with
 | num v=>exact .num v
 | var s=>exact .var s
 | index s x r _ ih=>exact .index s x r ih
 | call s ar A vs F ha _ ih=>exact .call s ar A vs F (ha.keep J I) ih
 | inn=>exact .inn
 | un op x r _ ih=>exact .un op x r ih
 | bin op x y r t _ _ ih1 ih2=>exact .bin op x y r t ih1 ih2
 | and x y r t _ _ ih1 ih2=>exact .and x y r t ih1 ih2
 | or x y r t _ _ ih1 ih2=>exact .or x y r t ih1 ih2
def Tv.isI(h:Tv w S v r):∃t x,v=.iface t x:=by
 cases h using Tv_i <;> exact⟨_,_,rfl⟩
end Go.Proofs.YtffnkkpmlplfeaaGreatDoor
