import Derived.Test.YtbmcnjjhgjphmaaDoorFA
import Derived.Test.YtbmcnjjhgjphmaaDoorAP2
import Derived.WalkSpells
import Derived.BigQuiet
import Derived.RegionTactic
namespace Go.Proofs.YtbmcnjjhgjphmaaDoor
open Go.RowKit
set_option linter.unusedVariables false
set_option linter.unusedSimpArgs false

/-- A slice of A values. -/
def Args (w : World) (S : Nat → Prop) (v : Value) (A : Nat) (vs : Nat → Value) : Prop := ∃ a cap, v = .slice a A cap ∧ A ≤ cap ∧ cap ≤ 9223372036854775807 ∧ (0 < A → ∃ B, a = some ⟨B, 0, none⟩ ∧ S B ∧ ∀ i, i < A → w.cell? ⟨B, i, none⟩ = some (vs i))
/-- A value that is the expression of the list; what it holds in memory lies in blocks of S. -/
structure Tv (w : World) (S : Nat → Prop) (a0_ : Value) (a1_ : List Nd) : Prop where
  c_ ::
  out : ∀ (P_ : Value → List Nd → Prop), (∀ (v : Int), P_ (.iface 64 (.agg #[.int .i64 v])) [⟨1, v, ⟨#[]⟩⟩]) → (∀ (s : ByteArray), P_ (.iface 84 (.agg #[.string s])) [⟨2, 0, s⟩]) → (∀ (s : ByteArray) (x : Value) (r : List Nd), P_ x r → P_ (.iface 86 (.agg #[.string s, x])) (r ++ [⟨3, 0, s⟩])) → (∀ (s : ByteArray) (ar : Value) (A : Nat) (vs : Nat → Value) (F : Nat → List Nd), Args w S ar A vs → (∀ i, i < A → P_ (vs i) (F i)) → P_ (.iface 88 (.agg #[.string s, ar])) (joinF F A ++ [⟨4, A, s⟩])) → (P_ (.iface 91 (.agg #[])) [⟨5, 0, ⟨#[]⟩⟩]) → (∀ (op : Int) (x : Value) (r : List Nd), P_ x r → P_ (.iface 62 (.agg #[.int .i64 op, x])) (r ++ [⟨6, op, ⟨#[]⟩⟩])) → (∀ (op : Int) (x y : Value) (r t : List Nd), P_ x r → P_ y t → P_ (.iface 67 (.agg #[.int .i64 op, x, y])) (r ++ t ++ [⟨7, op, ⟨#[]⟩⟩])) → (∀ (x y : Value) (r t : List Nd), P_ x r → P_ y t → P_ (.iface 70 (.agg #[x, y])) (r ++ t ++ [⟨8, 0, ⟨#[]⟩⟩])) → (∀ (x y : Value) (r t : List Nd), P_ x r → P_ y t → P_ (.iface 72 (.agg #[x, y])) (r ++ t ++ [⟨9, 0, ⟨#[]⟩⟩])) → P_ a0_ a1_
theorem Tv.num {w : World} {S : Nat → Prop} (v : Int) : Tv w S (.iface 64 (.agg #[.int .i64 v])) [⟨1, v, ⟨#[]⟩⟩] := ⟨fun P_ h0_ h1_ h2_ h3_ h4_ h5_ h6_ h7_ h8_ => h0_ v⟩
theorem Tv.var {w : World} {S : Nat → Prop} (s : ByteArray) : Tv w S (.iface 84 (.agg #[.string s])) [⟨2, 0, s⟩] := ⟨fun P_ h0_ h1_ h2_ h3_ h4_ h5_ h6_ h7_ h8_ => h1_ s⟩
theorem Tv.index {w : World} {S : Nat → Prop} (s : ByteArray) (x : Value) (r : List Nd) (q0_ : Tv w S x r) : Tv w S (.iface 86 (.agg #[.string s, x])) (r ++ [⟨3, 0, s⟩]) := ⟨fun P_ h0_ h1_ h2_ h3_ h4_ h5_ h6_ h7_ h8_ => h2_ s x r (q0_.out P_ h0_ h1_ h2_ h3_ h4_ h5_ h6_ h7_ h8_)⟩
theorem Tv.call {w : World} {S : Nat → Prop} (s : ByteArray) (ar : Value) (A : Nat) (vs : Nat → Value) (F : Nat → List Nd) (q0_ : Args w S ar A vs) (q1_ : ∀ i, i < A → Tv w S (vs i) (F i)) : Tv w S (.iface 88 (.agg #[.string s, ar])) (joinF F A ++ [⟨4, A, s⟩]) := ⟨fun P_ h0_ h1_ h2_ h3_ h4_ h5_ h6_ h7_ h8_ => h3_ s ar A vs F q0_ (fun i r0_ => (q1_ i r0_).out P_ h0_ h1_ h2_ h3_ h4_ h5_ h6_ h7_ h8_)⟩
theorem Tv.inn {w : World} {S : Nat → Prop} : Tv w S (.iface 91 (.agg #[])) [⟨5, 0, ⟨#[]⟩⟩] := ⟨fun P_ h0_ h1_ h2_ h3_ h4_ h5_ h6_ h7_ h8_ => h4_⟩
theorem Tv.un {w : World} {S : Nat → Prop} (op : Int) (x : Value) (r : List Nd) (q0_ : Tv w S x r) : Tv w S (.iface 62 (.agg #[.int .i64 op, x])) (r ++ [⟨6, op, ⟨#[]⟩⟩]) := ⟨fun P_ h0_ h1_ h2_ h3_ h4_ h5_ h6_ h7_ h8_ => h5_ op x r (q0_.out P_ h0_ h1_ h2_ h3_ h4_ h5_ h6_ h7_ h8_)⟩
theorem Tv.bin {w : World} {S : Nat → Prop} (op : Int) (x y : Value) (r t : List Nd) (q0_ : Tv w S x r) (q1_ : Tv w S y t) : Tv w S (.iface 67 (.agg #[.int .i64 op, x, y])) (r ++ t ++ [⟨7, op, ⟨#[]⟩⟩]) := ⟨fun P_ h0_ h1_ h2_ h3_ h4_ h5_ h6_ h7_ h8_ => h6_ op x y r t (q0_.out P_ h0_ h1_ h2_ h3_ h4_ h5_ h6_ h7_ h8_) (q1_.out P_ h0_ h1_ h2_ h3_ h4_ h5_ h6_ h7_ h8_)⟩
theorem Tv.and {w : World} {S : Nat → Prop} (x y : Value) (r t : List Nd) (q0_ : Tv w S x r) (q1_ : Tv w S y t) : Tv w S (.iface 70 (.agg #[x, y])) (r ++ t ++ [⟨8, 0, ⟨#[]⟩⟩]) := ⟨fun P_ h0_ h1_ h2_ h3_ h4_ h5_ h6_ h7_ h8_ => h7_ x y r t (q0_.out P_ h0_ h1_ h2_ h3_ h4_ h5_ h6_ h7_ h8_) (q1_.out P_ h0_ h1_ h2_ h3_ h4_ h5_ h6_ h7_ h8_)⟩
theorem Tv.or {w : World} {S : Nat → Prop} (x y : Value) (r t : List Nd) (q0_ : Tv w S x r) (q1_ : Tv w S y t) : Tv w S (.iface 72 (.agg #[x, y])) (r ++ t ++ [⟨9, 0, ⟨#[]⟩⟩]) := ⟨fun P_ h0_ h1_ h2_ h3_ h4_ h5_ h6_ h7_ h8_ => h8_ x y r t (q0_.out P_ h0_ h1_ h2_ h3_ h4_ h5_ h6_ h7_ h8_) (q1_.out P_ h0_ h1_ h2_ h3_ h4_ h5_ h6_ h7_ h8_)⟩
theorem Tv.ind {w : World} {S : Nat → Prop} {motive : ∀ (a0_ : Value) (a1_ : List Nd), Tv w S a0_ a1_ → Prop}
    (num : ∀ (v : Int) , motive (.iface 64 (.agg #[.int .i64 v])) [⟨1, v, ⟨#[]⟩⟩] (Tv.num v))
    (var : ∀ (s : ByteArray) , motive (.iface 84 (.agg #[.string s])) [⟨2, 0, s⟩] (Tv.var s))
    (index : ∀ (s : ByteArray) (x : Value) (r : List Nd) (q0_ : Tv w S x r) (q0_i : motive x r q0_), motive (.iface 86 (.agg #[.string s, x])) (r ++ [⟨3, 0, s⟩]) (Tv.index s x r q0_))
    (call : ∀ (s : ByteArray) (ar : Value) (A : Nat) (vs : Nat → Value) (F : Nat → List Nd) (q0_ : Args w S ar A vs) (q1_ : ∀ i, i < A → Tv w S (vs i) (F i)) (q1_i : ∀ i (r0_ : i < A), motive (vs i) (F i) (q1_ i r0_)), motive (.iface 88 (.agg #[.string s, ar])) (joinF F A ++ [⟨4, A, s⟩]) (Tv.call s ar A vs F q0_ q1_))
    (inn : motive (.iface 91 (.agg #[])) [⟨5, 0, ⟨#[]⟩⟩] (Tv.inn))
    (un : ∀ (op : Int) (x : Value) (r : List Nd) (q0_ : Tv w S x r) (q0_i : motive x r q0_), motive (.iface 62 (.agg #[.int .i64 op, x])) (r ++ [⟨6, op, ⟨#[]⟩⟩]) (Tv.un op x r q0_))
    (bin : ∀ (op : Int) (x y : Value) (r t : List Nd) (q0_ : Tv w S x r) (q1_ : Tv w S y t) (q0_i : motive x r q0_) (q1_i : motive y t q1_), motive (.iface 67 (.agg #[.int .i64 op, x, y])) (r ++ t ++ [⟨7, op, ⟨#[]⟩⟩]) (Tv.bin op x y r t q0_ q1_))
    (and : ∀ (x y : Value) (r t : List Nd) (q0_ : Tv w S x r) (q1_ : Tv w S y t) (q0_i : motive x r q0_) (q1_i : motive y t q1_), motive (.iface 70 (.agg #[x, y])) (r ++ t ++ [⟨8, 0, ⟨#[]⟩⟩]) (Tv.and x y r t q0_ q1_))
    (or : ∀ (x y : Value) (r t : List Nd) (q0_ : Tv w S x r) (q1_ : Tv w S y t) (q0_i : motive x r q0_) (q1_i : motive y t q1_), motive (.iface 72 (.agg #[x, y])) (r ++ t ++ [⟨9, 0, ⟨#[]⟩⟩]) (Tv.or x y r t q0_ q1_))
    {a0_ : Value} {a1_ : List Nd} (t_ : Tv w S a0_ a1_) : motive a0_ a1_ t_ :=
  (t_.out (fun a0_ a1_ => ∃ z_ : Tv w S a0_ a1_, motive a0_ a1_ z_)
    (fun v => ⟨Tv.num v, num v⟩)
    (fun s => ⟨Tv.var s, var s⟩)
    (fun s x r q0_ => ⟨Tv.index s x r q0_.1, index s x r q0_.1 q0_.2⟩)
    (fun s ar A vs F q0_ q1_ => ⟨Tv.call s ar A vs F q0_ (fun i r0_ => (q1_ i r0_).1), call s ar A vs F q0_ (fun i r0_ => (q1_ i r0_).1) (fun i r0_ => (q1_ i r0_).2)⟩)
    (⟨Tv.inn, inn⟩)
    (fun op x r q0_ => ⟨Tv.un op x r q0_.1, un op x r q0_.1 q0_.2⟩)
    (fun op x y r t q0_ q1_ => ⟨Tv.bin op x y r t q0_.1 q1_.1, bin op x y r t q0_.1 q1_.1 q0_.2 q1_.2⟩)
    (fun x y r t q0_ q1_ => ⟨Tv.and x y r t q0_.1 q1_.1, and x y r t q0_.1 q1_.1 q0_.2 q1_.2⟩)
    (fun x y r t q0_ q1_ => ⟨Tv.or x y r t q0_.1 q1_.1, or x y r t q0_.1 q1_.1 q0_.2 q1_.2⟩)).2
theorem Args.keep {w w' : World} {S S' : Nat → Prop} {v : Value} {A : Nat} {vs : Nat → Value} (h : Args w S v A vs) (hS : ∀ B, S B → S' B) (hk : ∀ B, S B → w'.heap[B]? = w.heap[B]?) : Args w' S' v A vs := by
  obtain ⟨a, cap, rfl, h1, h2, h⟩ := h
  refine ⟨a, cap, rfl, h1, h2, fun h0 => ?_⟩
  obtain ⟨B, rfl, hB, hc⟩ := h h0
  exact ⟨B, rfl, hS B hB, fun i hi => (World.cell?_of_block (a := ⟨B, i, none⟩) (hk B hB)).trans (hc i hi)⟩
theorem Tv.keep {w w' : World} {S S' : Nat → Prop} {v : Value} {r : List Nd} (h : Tv w S v r) (hS : ∀ B, S B → S' B) (hk : ∀ B, S B → w'.heap[B]? = w.heap[B]?) : Tv w' S' v r := by
  induction h using Tv.ind with
  | num v => exact .num v
  | var s => exact .var s
  | index s x r _ ih => exact .index s x r ih
  | call s ar A vs F ha _ ih => exact .call s ar A vs F (ha.keep hS hk) ih
  | inn => exact .inn
  | un op x r _ ih => exact .un op x r ih
  | bin op x y r t _ _ ih1 ih2 => exact .bin op x y r t ih1 ih2
  | and x y r t _ _ ih1 ih2 => exact .and x y r t ih1 ih2
  | or x y r t _ _ ih1 ih2 => exact .or x y r t ih1 ih2
theorem Tv.pos {w : World} {S : Nat → Prop} {v : Value} {r : List Nd} (h : Tv w S v r) : 0 < r.length := by
  cases h using Tv.ind <;> simp <;> omega
theorem Tv.isI {w : World} {S : Nat → Prop} {v : Value} {r : List Nd} (h : Tv w S v r) : ∃ t x, v = .iface t x := by
  cases h using Tv.ind <;> exact ⟨_, _, rfl⟩
/-- Whether it is a number shows in the list. -/
theorem Tv.some {w : World} {S : Nat → Prop} {v : Value} {r : List Nd} {x : Int} (h : Tv w S v r) (hx : isN r = some x) : v = .iface 64 (.agg #[.int .i64 x]) := by
  cases h using Tv.ind with
  | num v => simp [isN] at hx; rw [hx]
  | var s => simp [isN] at hx
  | index s x r h => exfalso; have := h.pos; cases r with
    | nil => simp at this
    | cons a l => cases l <;> simp [isN] at hx
  | call s ar A vs F _ _ => exfalso; cases hj : joinF F A with
    | nil => rw [hj] at hx; simp [isN] at hx
    | cons a l => rw [hj] at hx; cases l <;> simp [isN] at hx
  | inn => simp [isN] at hx
  | un op x r h => exfalso; have := h.pos; cases r with
    | nil => simp at this
    | cons a l => cases l <;> simp [isN] at hx
  | bin op x y r t h1 h2 => exfalso; have := h1.pos; cases r with
    | nil => simp at this
    | cons a l => cases l <;> cases t <;> simp [isN] at hx
  | and x y r t h1 h2 => exfalso; have := h1.pos; cases r with
    | nil => simp at this
    | cons a l => cases l <;> cases t <;> simp [isN] at hx
  | or x y r t h1 h2 => exfalso; have := h1.pos; cases r with
    | nil => simp at this
    | cons a l => cases l <;> cases t <;> simp [isN] at hx
theorem Tv.none {w : World} {S : Nat → Prop} {v : Value} {r : List Nd} (h : Tv w S v r) (hx : isN r = none) : ∃ t x, v = .iface t x ∧ t ≠ 64 := by
  cases h using Tv.ind with
  | num v => simp [isN] at hx
  | _ => exact ⟨_, _, rfl, by decide⟩

end Go.Proofs.YtbmcnjjhgjphmaaDoor
