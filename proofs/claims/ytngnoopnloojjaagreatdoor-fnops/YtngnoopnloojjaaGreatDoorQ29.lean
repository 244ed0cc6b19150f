import Derived.Test.YtngnoopnloojjaaGreatDoorQ01
import Derived.WalkSpells
import Derived.BigQuiet
namespace Go.Proofs.YtngnoopnloojjaaGreatDoor
open Go.RowKit
set_option linter.all false
set_option maxRecDepth 100000
set_option maxHeartbeats 0
variable{w w':AT}{S S':DO}{v:BY}{r:List Nd}
def gx(w:AT)(S:DO)(v:BY)(A:Nat)(vs:Nat->BY):Prop:=∃a cap,v=.slice a A cap/\A<=cap/\cap<=9223372036854775807/\(0<A->∃B,a=some ⟨B,0,none⟩/\S B/\∀i,i<A->w.cell? ⟨B,i,none⟩=some (vs i))
inductive Tv (w:AT) (S:DO):BY->List Nd->Prop
 | num (v:Int):Tv w S (.iface 100 (.agg #[.int .i64 v])) [⟨1,v,⟨#[]⟩⟩]
 | var (s:IF):Tv w S (.iface 169 (.agg #[.string s])) [⟨2,0,s⟩]
 | index (s:IF) (x:BY) (r:List Nd):Tv w S x r->Tv w S (.iface 171 (.agg #[.string s,x])) (r++[⟨3,0,s⟩])
 | call (s:IF) (ar:BY) (A:Nat) (vs:Nat->BY) (F:Nat->List Nd):gx w S ar A vs->(∀i,i<A->Tv w S (vs i) (F i))->Tv w S (.iface 173 (.agg #[.string s,ar])) (joinF F A++[⟨4,A,s⟩])
 | inn:Tv w S (.iface 176 (.agg #[])) [⟨5,0,⟨#[]⟩⟩]
 | un (op:Int) (x:BY) (r:List Nd):Tv w S x r->Tv w S (.iface 98 (.agg #[.int .i64 op,x])) (r++[⟨6,op,⟨#[]⟩⟩])
 | bin (op:Int) (x y:BY) (r t:List Nd):Tv w S x r->Tv w S y t->Tv w S (.iface 104 (.agg #[.int .i64 op,x,y])) (r++t++[⟨7,op,⟨#[]⟩⟩])
 | and (x y:BY) (r t:List Nd):Tv w S x r->Tv w S y t->Tv w S (.iface 107 (.agg #[x,y])) (r++t++[⟨8,0,⟨#[]⟩⟩])
 | or (x y:BY) (r t:List Nd):Tv w S x r->Tv w S y t->Tv w S (.iface 109 (.agg #[x,y])) (r++t++[⟨9,0,⟨#[]⟩⟩])
def gx.keep{A:Nat}{I:Nat->BY}(h:gx w S v A I)(X:∀B,S B->S' B)(U:∀B,S B->w'.heap[B]? =w.heap[B]?):gx w' S' v A I:=by
 obtain⟨a,Ja,rfl,J,h2,h⟩:=h;refine⟨a,Ja,rfl,J,h2,λh0=>?_⟩;obtain⟨B,rfl,H,O⟩:=h h0;exact⟨B,rfl,X B H,λi hi=>(c_ (a:=⟨B,i,none⟩) (U B H)).trans (O i hi)⟩
theorem Tv.keep(h:Tv w S v r)(I:∀B,S B->S' B)(H:∀B,S B->w'.heap[B]? =w.heap[B]?):Tv w' S' v r:=by
 induction h with
 | num v=>exact .num v
 | var s=>exact .var s
 | index s x r _ ih=>exact .index s x r ih
 | call s ar A vs F ha _ ih=>exact .call s ar A vs F (ha.keep I H) ih
 | inn=>exact .inn
 | un op x r _ ih=>exact .un op x r ih
 | bin op x y r t _ _ ih1 ih2=>exact .bin op x y r t ih1 ih2
 | and x y r t _ _ ih1 ih2=>exact .and x y r t ih1 ih2
 | or x y r t _ _ ih1 ih2=>exact .or x y r t ih1 ih2
def Tv.pos(h:Tv w S v r):0<r.length:=by
 cases h <;> simp <;> omega
def Tv.isI(h:Tv w S v r):∃t x,v=.iface t x:=by
 cases h <;> exact⟨_,_,rfl⟩
theorem Tv.some{x:Int}(h:Tv w S v r)(H:gI r=some x):v=.iface 100 (.agg #[V x]):=by
 cases h with
 | num v=>simp[gI]at H;rw[H]
 | var s=>simp[gI]at H
 | index s x r h=>exfalso;have:=h.pos;cases r with
  | nil=>simp at this
  | cons a l=>cases l <;> simp[gI]at H
 | call s ar A vs F _ _=>exfalso;cases hj:joinF F A with
  | nil=>rw[hj]at H;simp[gI]at H
  | cons a l=>rw[hj]at H;cases l <;> simp[gI]at H
 | inn=>simp[gI]at H
 | un op x r h=>exfalso;have:=h.pos;cases r with
  | nil=>simp at this
  | cons a l=>cases l <;> simp[gI]at H
 | bin op x y r t h1 h2=>exfalso;have:=h1.pos;cases r with
  | nil=>simp at this
  | cons a l=>cases l <;> cases t <;> simp[gI]at H
 | and x y r t h1 h2=>exfalso;have:=h1.pos;cases r with
  | nil=>simp at this
  | cons a l=>cases l <;> cases t <;> simp[gI]at H
 | or x y r t h1 h2=>exfalso;have:=h1.pos;cases r with
  | nil=>simp at this
  | cons a l=>cases l <;> cases t <;> simp[gI]at H
theorem Tv.none(h:Tv w S v r)(H:gI r=none):∃t x,v=.iface t x/\t≠100:=by
 cases h with
 | num v=>simp[gI]at H
 | _=>exact⟨_,_,rfl,d_⟩
end Go.Proofs.YtngnoopnloojjaaGreatDoor
