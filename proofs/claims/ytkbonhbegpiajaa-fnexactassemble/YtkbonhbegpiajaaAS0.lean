import Derived.WalkKit
namespace Go.Proofs.Ytkbonhbegpiajaa
set_option linter.unusedVariables false
set_option linter.unusedSimpArgs false

/-- An instruction, and an item of code. -/
structure Ins where
  op : Int
  rd : Int
  s1 : Int
  s2 : Int
  im : Int
structure It where
  kind : Int
  ins : Ins
  label : Int
def it0 : It := ⟨0, ⟨0, 0, 0, 0, 0⟩, 0⟩
def szB (it : It) (l : Bool) : Nat := if it.kind = 2 then 0 else if l then 2 else 1
/-- The words before an item. -/
def plN (its : List It) (lg : List Bool) : Nat → Nat
  | 0 => 0
  | k + 1 => plN its lg k + szB (its.getD k it0) (lg.getD k false)
theorem plN_le (its : List It) (lg : List Bool) (k : Nat) : plN its lg k ≤ 2 * k := by
  induction k with
  | zero => simp [plN]
  | succ k ih =>
    have : szB (its.getD k it0) (lg.getD k false) ≤ 2 := by
      unfold szB
      split
      · omega
      · split <;> omega
    simp only [plN]
    omega
def isL (x : It) (lab : Int) : Bool := decide (x.kind = 2 ∧ x.label = lab)
/-- The places of a label. -/
def posL (its : List It) (lab : Int) : List Nat := (List.range its.length).filter (fun k => isL (its.getD k it0) lab)
theorem posL_snoc (its : List It) (x : It) (lab : Int) : posL (its ++ [x]) lab = posL its lab ++ (if isL x lab then [its.length] else []) := by
  unfold posL
  rw [List.length_append, List.length_singleton, List.range_succ, List.filter_append]
  congr 1
  · apply List.filter_congr
    intro k hk
    have hk := List.mem_range.1 hk
    simp [List.getD, List.getElem?_append_left hk]
  · have e : (its ++ [x]).getD its.length it0 = x := by simp [List.getD]
    simp only [List.filter_cons, List.filter_nil, e]
theorem posL_mem {its : List It} {lab : Int} {k : Nat} (h : k ∈ posL its lab) : k < its.length ∧ isL (its.getD k it0) lab = true := by
  simpa [posL] using h
theorem mem_posL {its : List It} {lab : Int} {k : Nat} (h : k < its.length) (hl : isL (its.getD k it0) lab = true) : k ∈ posL its lab := by
  simpa [posL] using ⟨h, hl⟩
theorem posL_take_le (its : List It) (k : Nat) (lab : Int) : (posL (its.take k) lab).length ≤ (posL its lab).length := by
  have key : ∀ d, k + d ≤ its.length → (posL (its.take k) lab).length ≤ (posL (its.take (k + d)) lab).length := by
    intro d
    induction d with
    | zero => intro _; exact Nat.le_refl _
    | succ d ih =>
      intro h
      have e : its.take (k + (d + 1)) = its.take (k + d) ++ [its[k + d]] := by
        rw [← Nat.add_assoc, List.take_add_one, List.getElem?_eq_getElem (by omega)]
        rfl
      rw [e, posL_snoc, List.length_append]
      have := ih (by omega)
      omega
  by_cases hk : k ≤ its.length
  · have := key (its.length - k) (by omega)
    rw [show k + (its.length - k) = its.length by omega, List.take_length] at this
    exact this
  · rw [List.take_of_length_le (by omega)]
    exact Nat.le_refl _
/-- Each label that is used or set has just one place. -/
def Linked (its : List It) : Prop := ∀ i, i < its.length → (its.getD i it0).kind ≠ 1 → (posL its (its.getD i it0).label).length = 1
/-- The goal of an item. -/
def tgt (its : List It) (i : Nat) : Nat := if (its.getD i it0).kind = 1 then 0 else (posL its (its.getD i it0).label).headD 0
theorem tgt_lt {its : List It} (h : Linked its) {i : Nat} (hi : i < its.length) : tgt its i < its.length := by
  unfold tgt
  split
  · omega
  · rename_i hk
    have h1 := h i hi hk
    cases e : posL its (its.getD i it0).label with
    | nil => rw [e] at h1; cases h1
    | cons k r =>
      have : k ∈ posL its (its.getD i it0).label := by rw [e]; simp
      exact (posL_mem this).1
/-- How far an item is from its goal. -/
def farN (its : List It) (lg : List Bool) (i : Nat) : Int := 4 * (plN its lg (tgt its i) : Int) - 4 * (plN its lg i : Int)
def reach (x : Int) : Bool := decide (-4096 ≤ x ∧ x ≤ 4094)
/-- Whether a branch must become long. -/
def grows (its : List It) (lg : List Bool) (i : Nat) : Bool := decide ((its.getD i it0).kind = 3) && !lg.getD i false && !reach (farN its lg i)
/-- One turn. -/
def turn (its : List It) (lg : List Bool) : List Bool := (List.range lg.length).map (fun i => lg.getD i false || grows its lg i)
theorem turn_len (its : List It) (lg : List Bool) : (turn its lg).length = lg.length := by simp [turn]
theorem turn_at (its : List It) (lg : List Bool) (i : Nat) (h : i < lg.length) : (turn its lg).getD i false = (lg.getD i false || grows its lg i) := by simp [turn, List.getD, h]
def turns (its : List It) : Nat → List Bool
  | 0 => List.replicate its.length false
  | m + 1 => turn its (turns its m)
theorem turns_len (its : List It) (m : Nat) : (turns its m).length = its.length := by
  induction m with
  | zero => simp [turns]
  | succ m ih => simp [turns, turn_len, ih]
/-- The lengths that are left at the end. -/
def Fin (its : List It) (lg : List Bool) : Prop := (∃ m, lg = turns its m) ∧ turn its lg = lg
theorem turns_stop {its : List It} {m : Nat} (h : turn its (turns its m) = turns its m) : ∀ d, turns its (m + d) = turns its m := by
  intro d
  induction d with
  | zero => rfl
  | succ d ih => rw [← Nat.add_assoc]; simp only [turns]; rw [ih, h]
theorem Fin.one {its : List It} {l l' : List Bool} (h : Fin its l) (h' : Fin its l') : l = l' := by
  obtain ⟨⟨m, rfl⟩, hm⟩ := h
  obtain ⟨⟨m', rfl⟩, hm'⟩ := h'
  by_cases hle : m ≤ m'
  · obtain ⟨d, rfl⟩ := Nat.exists_eq_add_of_le hle
    exact (turns_stop hm d).symm
  · obtain ⟨d, rfl⟩ := Nat.exists_eq_add_of_le (show m' ≤ m by omega)
    exact turns_stop hm' d
/-- How many are not long. -/
def short (lg : List Bool) : Nat := (lg.filter (fun b => !b)).length
theorem short_set {lg : List Bool} {i : Nat} (h : i < lg.length) (hf : lg.getD i false = false) : short (lg.set i true) < short lg := by
  have e : lg = lg.take i ++ [false] ++ lg.drop (i + 1) := by
    have h1 : lg[i] = false := by simpa [List.getD, h] using hf
    have h2 : lg.drop i = lg[i] :: lg.drop (i + 1) := List.drop_eq_getElem_cons h
    rw [h1] at h2
    have h3 := List.take_append_drop i lg
    rw [h2] at h3
    simpa using h3.symm
  have e2 : lg.set i true = lg.take i ++ [true] ++ lg.drop (i + 1) := by
    rw [List.set_eq_take_append_cons_drop, if_pos h]
    simp
  rw [e2]
  conv => rhs; rw [e]
  simp [short, List.filter_append]
end Go.Proofs.Ytkbonhbegpiajaa
