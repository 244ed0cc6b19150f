import Derived.WalkKit
import Derived.WalkSpells
import Derived.ProofKit
import Derived.Deep.QuietTactic
import Derived.BigQuiet
import Derived.WalkSmall
namespace Go.Proofs.Ytplkgkgekgdnmaa
open Go.RowKit
set_option linter.unusedVariables false

/-- The world has turned in the blocks of S and in new blocks alone. -/
structure Tcs (S : Nat → Prop) (W w' : World) : Prop where
  os : w'.os = W.os
  tape : w'.tape = W.tape
  output : w'.output = W.output
  size : W.heap.size ≤ w'.heap.size
  block : ∀ k, k < W.heap.size → ¬ S k → w'.heap[k]? = W.heap[k]?
theorem Tcs.refl (S : Nat → Prop) (W : World) : Tcs S W W := ⟨rfl, rfl, rfl, Nat.le_refl _, fun _ _ _ => rfl⟩
theorem Tcs.trans {S : Nat → Prop} {a b c : World} (h : Tcs S a b) (k : Tcs S b c) : Tcs S a c :=
  ⟨k.os.trans h.os, k.tape.trans h.tape, k.output.trans h.output, Nat.le_trans h.size k.size, fun i hi hg => (k.block i (Nat.lt_of_lt_of_le hi h.size) hg).trans (h.block i hi hg)⟩
theorem Tcs.mono {S T : Nat → Prop} {a b : World} (h : Tcs S a b) (hs : ∀ k, S k → T k) : Tcs T a b :=
  ⟨h.os, h.tape, h.output, h.size, fun k hk hn => h.block k hk fun s => hn (hs k s)⟩
theorem Tcs.drewN {S : Nat → Prop} {a w : World} (h : Tcs S a w) (n : Nat) : Tcs S a (w.drewN n) := h.trans ⟨rfl, rfl, rfl, Nat.le_refl _, fun _ _ _ => rfl⟩
theorem Tcs.setCell {S : Nat → Prop} {a w : World} (h : Tcs S a w) {p : Addr} (hp : S p.block) (u : Value) : Tcs S a (w.setCell p u) :=
  h.trans ⟨rfl, rfl, rfl, by simp, fun k _ hk => Below.heap_setCell w p u k fun e => hk (e ▸ hp)⟩
theorem Tcs.alloc {S : Nat → Prop} {a w : World} (h : Tcs S a w) (o : Obj) : Tcs S a (w.alloc o) :=
  h.trans ⟨rfl, rfl, rfl, by simp, fun k hk _ => Below.heap_alloc w o k hk⟩
/-- A store into a block that is new since a. -/
theorem Tcs.setNew {S : Nat → Prop} {a w : World} (h : Tcs S a w) {p : Addr} (hp : a.heap.size ≤ p.block) (u : Value) : Tcs S a (w.setCell p u) :=
  ⟨h.os, h.tape, h.output, by simpa using h.size, fun k hk hn => (Below.heap_setCell w p u k (by omega)).trans (h.block k hk hn)⟩
theorem Tcs.of_below {S : Nat → Prop} {a w w' : World} (h : Tcs S a w) (hb : Below w.heap.size w w') : Tcs S a w' :=
  h.trans ⟨hb.os, hb.tape, hb.output, hb.size, fun k hk _ => hb.block k hk⟩
/-- What is new since a may be written freely. -/
theorem Tcs.of_new {S : Nat → Prop} {B : Nat} {a w w' : World} (h : Tcs S a w) (hb : Below B w w') (hB : a.heap.size ≤ B) : Tcs S a w' :=
  ⟨hb.os.trans h.os, hb.tape.trans h.tape, hb.output.trans h.output, Nat.le_trans h.size hb.size, fun k hk hn => (hb.block k (by omega)).trans (h.block k hk hn)⟩
theorem Tcs.below {S : Nat → Prop} {B : Nat} {a w w' : World} (h : Tcs S w w') (hb : Below B a w) (hB : B ≤ w.heap.size) (hg : ∀ k, S k → B ≤ k) : Below B a w' :=
  ⟨h.os.trans hb.os, h.tape.trans hb.tape, h.output.trans hb.output, Nat.le_trans hb.size h.size, fun k hk => (h.block k (by omega) (fun s => by have := hg k s; omega)).trans (hb.block k hk)⟩

/-- The block that a slice of one cell or more lies in. -/
def blk : Value → List Nat
  | .slice (some a) (_ + 1) _ => [a.block]
  | _ => []
@[simp] theorem blk_zero (a : Option Addr) (c : Nat) : blk (.slice a 0 c) = [] := by cases a <;> rfl
@[simp] theorem blk_none (n c : Nat) : blk (.slice none n c) = [] := rfl
theorem blk_some (a : Addr) (n c : Nat) (h : 0 < n) : blk (.slice (some a) n c) = [a.block] := by
  cases n with
  | zero => omega
  | succ n => rfl

/-- The cells of block g from off on hold the numbers zs; none is frozen. -/
structure Row (k : IntKind) (w : World) (g off : Nat) (zs : List Int) : Prop where
  lt : g < w.heap.size
  cell : ∀ j, j < zs.length → w.cell? ⟨g, off + j, none⟩ = some (.int k (zs.getD j 0))
  froz : ∀ j, w.frozen? ⟨g, j, none⟩ = false
theorem Row.keep {k : IntKind} {w w' : World} {g off : Nat} {zs : List Int} (h : Row k w g off zs) (hs : w.heap.size ≤ w'.heap.size) (hb : w'.heap[g]? = w.heap[g]?) : Row k w' g off zs :=
  ⟨Nat.lt_of_lt_of_le h.lt hs, fun j hj => (World.cell?_of_block (w := w) (a := ⟨g, off + j, none⟩) hb).trans (h.cell j hj), fun j => (World.frozen?_of_block (w := w) (a := ⟨g, j, none⟩) hb).trans (h.froz j)⟩

/-- A slice that holds the numbers zs of kind k. -/
def Lis (k : IntKind) (w : World) (v : Value) (zs : List Int) : Prop :=
  ∃ a cap, v = .slice a zs.length cap ∧ (0 < zs.length → ∃ g off, a = some ⟨g, off, none⟩ ∧ Row k w g off zs)
theorem Lis.keep {k : IntKind} {w w' : World} {v : Value} {zs : List Int} (h : Lis k w v zs) (hs : w.heap.size ≤ w'.heap.size) (hb : ∀ g ∈ blk v, g < w.heap.size → w'.heap[g]? = w.heap[g]?) : Lis k w' v zs := by
  obtain ⟨a, cap, rfl, hr⟩ := h
  refine ⟨a, cap, rfl, fun hn => ?_⟩
  obtain ⟨g, off, rfl, hR⟩ := hr hn
  exact ⟨g, off, rfl, hR.keep hs (hb g (by rw [blk_some _ _ _ hn]; simp) hR.lt)⟩
theorem Lis.lt {k : IntKind} {w : World} {v : Value} {zs : List Int} (h : Lis k w v zs) : ∀ g ∈ blk v, g < w.heap.size := by
  obtain ⟨a, cap, rfl, hr⟩ := h
  intro g hg
  by_cases hn : 0 < zs.length
  · obtain ⟨g', off, rfl, hR⟩ := hr hn
    rw [blk_some _ _ _ hn] at hg
    simp only [List.mem_singleton] at hg
    subst hg
    exact hR.lt
  · obtain h0 : zs.length = 0 := by omega
    rw [h0] at hg
    simp at hg
theorem Lis.below {k : IntKind} {w w' : World} {v : Value} {zs : List Int} (h : Lis k w v zs) (hb : Below w.heap.size w w') : Lis k w' v zs :=
  h.keep hb.size fun g _ hl => hb.block g hl
theorem Lis.tcs {S : Nat → Prop} {k : IntKind} {w w' : World} {v : Value} {zs : List Int} (h : Lis k w v zs) (ht : Tcs S w w') (hn : ∀ g ∈ blk v, ¬ S g) : Lis k w' v zs :=
  h.keep ht.size fun g hg hl => ht.block g hl (hn g hg)
theorem Lis.nil (k : IntKind) (w : World) (a : Option Addr) (c : Nat) : Lis k w (.slice a 0 c) [] := ⟨a, c, rfl, fun h => absurd h (Nat.lt_irrefl _)⟩
theorem Lis.len0 {k : IntKind} {w : World} {v : Value} {zs : List Int} (h : Lis k w v zs) : ∃ a cap, v = .slice a zs.length cap := by
  obtain ⟨a, cap, rfl, _⟩ := h
  exact ⟨a, cap, rfl⟩
theorem Lis.cases {k : IntKind} {w : World} {v : Value} {zs : List Int} (h : Lis k w v zs) : (zs = [] ∧ ∃ a cap, v = .slice a 0 cap) ∨ (0 < zs.length ∧ ∃ g off cap, v = .slice (some ⟨g, off, none⟩) zs.length cap ∧ Row k w g off zs) := by
  obtain ⟨a, cap, rfl, hr⟩ := h
  by_cases hn : 0 < zs.length
  · obtain ⟨g, off, rfl, hR⟩ := hr hn
    exact .inr ⟨hn, g, off, cap, rfl, hR⟩
  · obtain rfl : zs = [] := List.eq_nil_of_length_eq_zero (by omega)
    exact .inl ⟨rfl, a, cap, rfl⟩
theorem Lis.of_row {k : IntKind} {w : World} {g off cap : Nat} {zs : List Int} (h : Row k w g off zs) : Lis k w (.slice (some ⟨g, off, none⟩) zs.length cap) zs :=
  ⟨_, cap, rfl, fun _ => ⟨g, off, rfl, h⟩⟩
/-- From the library's own predicate. -/
theorem Lis.of_own {k : IntKind} {w : World} {base e : Nat} {v : Value} {n : Nat} {zs : List Int} (h : w.ownsRow base e 1 v n (zs.map (Value.int k))) : Lis k w v zs ∧ ∀ g ∈ blk v, base ≤ g := by
  have hl := h.1
  simp only [List.length_map, Nat.mul_one] at hl
  subst hl
  rcases h.2 with ⟨rfl, h0⟩ | ⟨g, cap, cur, rfl, hbg, hg, hnc, hcm, hcs, htake⟩
  · obtain rfl : zs = [] := List.eq_nil_of_length_eq_zero h0
    exact ⟨Lis.nil _ _ _ _, by simp⟩
  · refine ⟨Lis.of_row ⟨(Array.getElem?_eq_some_iff.mp hg).1, fun j hj => ?_, fun j => ?_⟩, ?_⟩
    · rw [Nat.zero_add, h.cellAt j (by omega)]
      simp [hj]
    · exact h.frozenAt j
    · intro b hb
      by_cases hn : 0 < zs.length
      · rw [blk_some _ _ _ hn] at hb
        simp only [List.mem_singleton] at hb
        omega
      · rw [show zs.length = 0 by omega] at hb
        simp at hb

/-- What marking lays: q, q + 1 and on, wrapped. -/
def marks (k : IntKind) (q : Int) (n : Nat) : List Int := (List.range n).map fun (i : Nat) => k.wrap (q + (i : Int))
@[simp] theorem marks_length (k : IntKind) (q : Int) (n : Nat) : (marks k q n).length = n := by simp [marks]
theorem marks_getD (k : IntKind) (q : Int) (n j : Nat) (h : j < n) : (marks k q n).getD j 0 = k.wrap (q + j) := by simp [marks, h]
end Go.Proofs.Ytplkgkgekgdnmaa
