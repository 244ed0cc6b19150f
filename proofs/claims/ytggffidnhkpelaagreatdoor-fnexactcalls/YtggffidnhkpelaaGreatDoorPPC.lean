import Derived.Test.YtggffidnhkpelaaGreatDoorPPA
import Derived.Test.YtggffidnhkpelaaGreatDoorPV7
namespace Go.Proofs.YtggffidnhkpelaaGreatDoor
open Go.RowKit
set_option linter.unusedVariables false
set_option linter.unusedSimpArgs false

theorem Nodes.cut {w : World} {a : Option Addr} {cap : Nat} {ns : List Nd} (h : Nodes w (.slice a ns.length cap) ns) (lo hi : Nat) (h1 : lo ≤ hi) (h2 : hi ≤ ns.length) :
    Nodes w (.slice (if cap = lo then a else a.map (·.add (lo * 3))) (hi - lo) (cap - lo)) ((ns.take hi).drop lo) := by
  obtain ⟨a', cap', he, hl, hm, h⟩ := h
  simp only [Value.slice.injEq, true_and] at he
  obtain ⟨rfl, rfl⟩ := he
  refine ⟨if cap = lo then a else a.map (·.add (lo * 3)), cap - lo, by simp [Nat.min_eq_left h2], by simp [Nat.min_eq_left h2]; omega, by omega, fun h0 => ?_⟩
  simp only [List.length_drop, List.length_take, Nat.min_eq_left h2] at h0
  obtain ⟨b, off, rfl, hc⟩ := h (by omega)
  refine ⟨b, off + lo * 3, ?_, fun j hj => ?_⟩
  · rw [if_neg (by omega)]; simp [Addr.add]
  · simp only [List.length_drop, List.length_take, Nat.min_eq_left h2] at hj
    have hcc := hc (lo + j) (by omega)
    have e : ((ns.take hi).drop lo)[j]'(by simp; omega) = ns[lo + j]'(by omega) := by simp
    rw [e]
    have e1 : off + lo * 3 + j * 3 = off + (lo + j) * 3 := by omega
    rw [e1]
    exact hcc
theorem Nodes.head {w : World} {a : Option Addr} {cap : Nat} {ns : List Nd} (h : Nodes w (.slice a ns.length cap) ns) (hi : Nat) (h2 : hi ≤ ns.length) : Nodes w (.slice a hi cap) (ns.take hi) := by
  have := h.cut 0 hi (Nat.zero_le _) h2
  have e : (if cap = 0 then a else a.map (·.add (0 * 3))) = a := by
    split
    · rfl
    · cases a <;> simp [Addr.add]
  rw [e] at this
  simpa using this
theorem ncut_run (a : Option Addr) (n cap lo hi : Nat) (h1 : lo ≤ hi) (h2 : hi ≤ n) (h3 : n ≤ cap) : ∀ w : World, (Instr.slice 67 (.slice a n cap) (some (.int .i64 lo)) (some (.int .i64 hi)) none).run Tryz.prog w = .ok (.slice (if cap = lo then a else a.map (·.add (lo * 3))) (hi - lo) (cap - lo)) w := by
  intro w
  have hz : Tryz.prog.elem 67 = 71 := by kernel_rfl
  have hs : (sizeOf 71).run Tryz.prog w = .ok 3 w := by kernel_rfl
  rw [run_slice_lh w 67 a n cap (by rw [hz]; exact Tryz.underlying67) .i64 .i64 _ _ (by omega) (by omega) (by omega), hz, hs]
  simp only [Result.andThen, sliced, Int.toNat_natCast]
theorem ncut_run_l (a : Option Addr) (n cap lo : Nat) (h2 : lo ≤ n) (h3 : n ≤ cap) : ∀ w : World, (Instr.slice 67 (.slice a n cap) (some (.int .i64 lo)) none none).run Tryz.prog w = .ok (.slice (if cap = lo then a else a.map (·.add (lo * 3))) (n - lo) (cap - lo)) w := by
  intro w
  have hz : Tryz.prog.elem 67 = 71 := by kernel_rfl
  have hs : (sizeOf 71).run Tryz.prog w = .ok 3 w := by kernel_rfl
  rw [run_slice_l w 67 a n cap (by rw [hz]; exact Tryz.underlying67) .i64 _ (by omega) (by omega), hz, hs]
  simp only [Result.andThen, sliced, Int.toNat_natCast]

/-- The operands of e, as a slice of slices of nodes in a block from N on; the nodes themselves lie in w0. -/
def Kids (w0 w : World) (N : Nat) (v : Value) (e : List Nd) (b : Nat → Nat) (A : Nat) : Prop :=
  ∃ a cap, v = .slice a A cap ∧ A ≤ cap ∧ cap ≤ 9223372036854775807 ∧ (0 < A → ∃ B, a = some ⟨B, 0, none⟩ ∧ N ≤ B ∧ B < w.heap.size ∧ ∀ i, i < A → ∃ vi, w.cell? ⟨B, i, none⟩ = some vi ∧ Nodes w0 vi (kid e b i))
theorem Kids.below {w0 w w' : World} {N : Nat} {v : Value} {e : List Nd} {b : Nat → Nat} {A : Nat} (h : Kids w0 w N v e b A) (hb : Below w.heap.size w w') : Kids w0 w' N v e b A := by
  obtain ⟨a, cap, rfl, hl, hm, h⟩ := h
  refine ⟨a, cap, rfl, hl, hm, fun h0 => ?_⟩
  obtain ⟨B, rfl, hN, hB, hc⟩ := h h0
  refine ⟨B, rfl, hN, Nat.lt_of_lt_of_le hB hb.size, fun i hi => ?_⟩
  obtain ⟨vi, h1, h2⟩ := hc i hi
  exact ⟨vi, (hb.cell (p := ⟨B, i, none⟩) (World.block_lt_of_cell? _ _ h1)).trans h1, h2⟩

theorem info_nodes : (Tryz.prog.info? 67).map (fun i => (i.zero, i.size, i.bytes)) = some (some (.slice none 0 0), 1, 24) := by kernel_rfl

end Go.Proofs.YtggffidnhkpelaaGreatDoor
