import Derived.Test.YtffnkkpmlplfeaaGreatDoorF00
import Derived.WalkSpells
import Derived.BigQuiet
namespace Go.Proofs.YtffnkkpmlplfeaaGreatDoor
open Go.RowKit
set_option linter.all false
set_option maxRecDepth 100000
set_option maxHeartbeats 0
variable{w w':World}{S S':Nat->Prop}{v:Value}{r:List Nd}
def fY(w:World)(S:Nat->Prop)(v:Value)(A:Nat)(vs:Nat->Value):Prop:=∃a cap,v=.slice a A cap/\A<=cap/\cap<=9223372036854775807/\(0<A->∃B,a=some ⟨B,0,none⟩/\S B/\∀i,i<A->w.cell? ⟨B,i,none⟩=some (vs i))
inductive Tv (w:World) (S:Nat->Prop):Value->List Nd->Prop
 | num (v:Int):Tv w S (.iface 236 (.agg #[.int .i64 v])) [⟨1,v,⟨#[]⟩⟩]
 | var (s:ByteArray):Tv w S (.iface 264 (.agg #[.string s])) [⟨2,0,s⟩]
 | index (s:ByteArray) (x:Value) (r:List Nd):Tv w S x r->Tv w S (.iface 266 (.agg #[.string s,x])) (r++[⟨3,0,s⟩])
 | call (s:ByteArray) (ar:Value) (A:Nat) (vs:Nat->Value) (F:Nat->List Nd):fY w S ar A vs->(∀i,i<A->Tv w S (vs i) (F i))->Tv w S (.iface 268 (.agg #[.string s,ar])) (eU F A++[⟨4,A,s⟩])
 | inn:Tv w S (.iface 277 (.agg #[])) [⟨5,0,⟨#[]⟩⟩]
 | un (op:Int) (x:Value) (r:List Nd):Tv w S x r->Tv w S (.iface 270 (.agg #[.int .i64 op,x])) (r++[⟨6,op,⟨#[]⟩⟩])
 | bin (op:Int) (x y:Value) (r t:List Nd):Tv w S x r->Tv w S y t->Tv w S (.iface 272 (.agg #[.int .i64 op,x,y])) (r++t++[⟨7,op,⟨#[]⟩⟩])
 | and (x y:Value) (r t:List Nd):Tv w S x r->Tv w S y t->Tv w S (.iface 274 (.agg #[x,y])) (r++t++[⟨8,0,⟨#[]⟩⟩])
 | or (x y:Value) (r t:List Nd):Tv w S x r->Tv w S y t->Tv w S (.iface 275 (.agg #[x,y])) (r++t++[⟨9,0,⟨#[]⟩⟩])
theorem fY.keep{A:Nat}{vs:Nat->Value}(h:fY w S v A vs)(hS:∀B,S B->S' B)(Z:∀B,S B->w'.heap[B]? =w.heap[B]?):fY w' S' v A vs:=by
 obtain⟨a,J,rfl,U,h2,h⟩:=h;refine⟨a,J,rfl,U,h2,λh0=>?_⟩;obtain⟨B,rfl,I,Y⟩:=h h0;exact⟨B,rfl,hS B I,λi hi=>(c_ (a:=⟨B,i,none⟩) (Z B I)).trans (Y i hi)⟩
theorem Tv.keep(h:Tv w S v r)(J:∀B,S B->S' B)(I:∀B,S B->w'.heap[B]? =w.heap[B]?):Tv w' S' v r:=by
 induction h with
 | num v=>exact .num v
 | var s=>exact .var s
 | index s x r _ ih=>exact .index s x r ih
 | call s ar A vs F ha _ ih=>exact .call s ar A vs F (ha.keep J I) ih
 | inn=>exact .inn
 | un op x r _ ih=>exact .un op x r ih
 | bin op x y r t _ _ ih1 ih2=>exact .bin op x y r t ih1 ih2
 | and x y r t _ _ ih1 ih2=>exact .and x y r t ih1 ih2
 | or x y r t _ _ ih1 ih2=>exact .or x y r t ih1 ih2
theorem Tv.isI(h:Tv w S v r):∃t x,v=.iface t x:=by
 cases h <;> exact⟨_,_,rfl⟩
end Go.Proofs.YtffnkkpmlplfeaaGreatDoor
