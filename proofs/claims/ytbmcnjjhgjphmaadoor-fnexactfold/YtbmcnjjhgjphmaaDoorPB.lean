import Derived.Test.YtbmcnjjhgjphmaaDoorPA
namespace Go.Proofs.YtbmcnjjhgjphmaaDoor
set_option linter.unusedVariables false
set_option linter.unusedSimpArgs false

theorem Cut.le {e : List Nd} {A : Nat} {b : Nat → Nat} (h : Cut e A b) : ∀ d, d ≤ A → b (A - d) ≤ e.length - 1 := by
  intro d
  induction d with
  | zero => intro _; rw [Nat.sub_zero, h.last]; exact Nat.le_refl _
  | succ d ih =>
    intro hd
    have := ih (by omega)
    have h2 := (h.beg (A - (d + 1)) (by omega)).1
    rw [show A - (d + 1) + 1 = A - d by omega] at h2
    omega
theorem Cut.le' {e : List Nd} {A : Nat} {b : Nat → Nat} (h : Cut e A b) (i : Nat) (hi : i ≤ A) : b i ≤ e.length - 1 := by
  have := h.le (A - i) (by omega)
  rwa [show A - (A - i) = i by omega] at this
theorem Cut.kid_len {e : List Nd} {A : Nat} {b : Nat → Nat} (h : Cut e A b) (i : Nat) (hi : i < A) : (kid e b i).length = b (i + 1) - b i := by
  have := h.le' (i + 1) (by omega)
  simp [kid]
  omega
theorem Cut.kid_pos {e : List Nd} {A : Nat} {b : Nat → Nat} (h : Cut e A b) (i : Nat) (hi : i < A) : 0 < (kid e b i).length := by
  rw [h.kid_len i hi]
  have := (h.beg i hi).1
  omega
theorem Cut.kid_lt {e : List Nd} {A : Nat} {b : Nat → Nat} (h : Cut e A b) (i : Nat) (hi : i < A) : (kid e b i).length < e.length := by
  rw [h.kid_len i hi]
  have := h.le' (i + 1) (by omega)
  have := h.len
  omega

theorem Cut.root_good {e : List Nd} {A : Nat} {b : Nat → Nat} (h : Cut e A b) : nodeB (rootN e) = true := by
  rw [rootN_eq e h.len]
  exact h.good _ (List.getElem_mem _)
theorem Cut.arA {e : List Nd} {A : Nat} {b : Nat → Nat} (h : Cut e A b) : A ≤ 6 := by
  have := arity_good h.root_good
  have := h.ar
  omega
theorem Cut.kid_root {e : List Nd} {A : Nat} {b : Nat → Nat} (h : Cut e A b) (i : Nat) (hi : i < A) : nodeB (rootN (kid e b i)) = true := by
  rw [rootN_eq _ (h.kid_pos i hi)]
  refine h.good _ ?_
  have : (kid e b i)[(kid e b i).length - 1]'(by have := h.kid_pos i hi; omega) ∈ kid e b i := List.getElem_mem _
  exact List.mem_of_mem_take (List.mem_of_mem_drop this)

end Go.Proofs.YtbmcnjjhgjphmaaDoor
