import Derived.Test.YtjhmgjimppflhaaGreatDoorY00
import Derived.WalkSpells
import Derived.BigQuiet
import Derived.RegionTactic
namespace Go.Proofs.YtjhmgjimppflhaaGreatDoor
set_option linter.unusedVariables false
set_option linter.unusedSimpArgs false
set_option maxRecDepth 100000
set_option maxHeartbeats 16000000
section
open Go.RowKit
def Args (w : World) (S : Nat → Prop) (v : Value) (A : Nat) (vs : Nat → Value) : Prop := ∃ a cap, v = .slice a A cap ∧ A ≤ cap ∧ cap ≤ 9223372036854775807 ∧ (0 < A → ∃ B, a = some ⟨B, 0, none⟩ ∧ S B ∧ ∀ i, i < A → w.cell? ⟨B, i, none⟩ = some (vs i))
inductive Tv (w : World) (S : Nat → Prop) : Value → List Nd → Prop
 | num (v : Int) : Tv w S (.iface 202 (.agg #[.int .i64 v])) [⟨1, v, ⟨#[]⟩⟩]
 | var (s : ByteArray) : Tv w S (.iface 204 (.agg #[.string s])) [⟨2, 0, s⟩]
 | index (s : ByteArray) (x : Value) (r : List Nd) : Tv w S x r → Tv w S (.iface 188 (.agg #[.string s, x])) (r ++ [⟨3, 0, s⟩])
 | call (s : ByteArray) (ar : Value) (A : Nat) (vs : Nat → Value) (F : Nat → List Nd) : Args w S ar A vs → (∀ i, i < A → Tv w S (vs i) (F i)) → Tv w S (.iface 198 (.agg #[.string s, ar])) (joinF F A ++ [⟨4, A, s⟩])
 | inn : Tv w S (.iface 206 (.agg #[])) [⟨5, 0, ⟨#[]⟩⟩]
 | un (op : Int) (x : Value) (r : List Nd) : Tv w S x r → Tv w S (.iface 190 (.agg #[.int .i64 op, x])) (r ++ [⟨6, op, ⟨#[]⟩⟩])
 | bin (op : Int) (x y : Value) (r t : List Nd) : Tv w S x r → Tv w S y t → Tv w S (.iface 192 (.agg #[.int .i64 op, x, y])) (r ++ t ++ [⟨7, op, ⟨#[]⟩⟩])
 | and (x y : Value) (r t : List Nd) : Tv w S x r → Tv w S y t → Tv w S (.iface 194 (.agg #[x, y])) (r ++ t ++ [⟨8, 0, ⟨#[]⟩⟩])
 | or (x y : Value) (r t : List Nd) : Tv w S x r → Tv w S y t → Tv w S (.iface 195 (.agg #[x, y])) (r ++ t ++ [⟨9, 0, ⟨#[]⟩⟩])
theorem Args.keep {w w' : World} {S S' : Nat → Prop} {v : Value} {A : Nat} {vs : Nat → Value} (h : Args w S v A vs) (hS : ∀ B, S B → S' B) (hk : ∀ B, S B → w'.heap[B]? = w.heap[B]?) : Args w' S' v A vs := by
 obtain ⟨a, cap, rfl, h1, h2, h⟩ := h
 refine ⟨a, cap, rfl, h1, h2, fun h0 => ?_⟩
 obtain ⟨B, rfl, hB, hc⟩ := h h0
 exact ⟨B, rfl, hS B hB, fun i hi => (World.cell?_of_block (a := ⟨B, i, none⟩) (hk B hB)).trans (hc i hi)⟩
theorem Tv.keep {w w' : World} {S S' : Nat → Prop} {v : Value} {r : List Nd} (h : Tv w S v r) (hS : ∀ B, S B → S' B) (hk : ∀ B, S B → w'.heap[B]? = w.heap[B]?) : Tv w' S' v r := by
 induction h with
 | num v => exact .num v
 | var s => exact .var s
 | index s x r _ ih => exact .index s x r ih
 | call s ar A vs F ha _ ih => exact .call s ar A vs F (ha.keep hS hk) ih
 | inn => exact .inn
 | un op x r _ ih => exact .un op x r ih
 | bin op x y r t _ _ ih1 ih2 => exact .bin op x y r t ih1 ih2
 | and x y r t _ _ ih1 ih2 => exact .and x y r t ih1 ih2
 | or x y r t _ _ ih1 ih2 => exact .or x y r t ih1 ih2
theorem Tv.pos {w : World} {S : Nat → Prop} {v : Value} {r : List Nd} (h : Tv w S v r) : 0 < r.length := by
 cases h <;> simp <;> omega
theorem Tv.isI {w : World} {S : Nat → Prop} {v : Value} {r : List Nd} (h : Tv w S v r) : ∃ t x, v = .iface t x := by
 cases h <;> exact ⟨_, _, rfl⟩
theorem Tv.some {w : World} {S : Nat → Prop} {v : Value} {r : List Nd} {x : Int} (h : Tv w S v r) (hx : isN r = some x) : v = .iface 202 (.agg #[.int .i64 x]) := by
 cases h with
 | num v => simp [isN] at hx; rw [hx]
 | var s => simp [isN] at hx
 | index s x r h => exfalso; have := h.pos; cases r with
  | nil => simp at this
  | cons a l => cases l <;> simp [isN] at hx
 | call s ar A vs F _ _ => exfalso; cases hj : joinF F A with
  | nil => rw [hj] at hx; simp [isN] at hx
  | cons a l => rw [hj] at hx; cases l <;> simp [isN] at hx
 | inn => simp [isN] at hx
 | un op x r h => exfalso; have := h.pos; cases r with
  | nil => simp at this
  | cons a l => cases l <;> simp [isN] at hx
 | bin op x y r t h1 h2 => exfalso; have := h1.pos; cases r with
  | nil => simp at this
  | cons a l => cases l <;> cases t <;> simp [isN] at hx
 | and x y r t h1 h2 => exfalso; have := h1.pos; cases r with
  | nil => simp at this
  | cons a l => cases l <;> cases t <;> simp [isN] at hx
 | or x y r t h1 h2 => exfalso; have := h1.pos; cases r with
  | nil => simp at this
  | cons a l => cases l <;> cases t <;> simp [isN] at hx
theorem Tv.none {w : World} {S : Nat → Prop} {v : Value} {r : List Nd} (h : Tv w S v r) (hx : isN r = none) : ∃ t x, v = .iface t x ∧ t ≠ 202 := by
 cases h with
 | num v => simp [isN] at hx
 | _ => exact ⟨_, _, rfl, by decide⟩
end
end Go.Proofs.YtjhmgjimppflhaaGreatDoor
