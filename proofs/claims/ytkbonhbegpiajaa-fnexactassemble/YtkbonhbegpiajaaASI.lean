import Derived.Test.YtkbonhbegpiajaaASH
namespace Go.Proofs.Ytkbonhbegpiajaa
open Go.RowKit
set_option linter.unusedVariables false
set_option linter.unusedSimpArgs false
set_option linter.unusedSectionVars false
variable [Inhabited Pick]

def blv (lg : List Bool) : List Value := lg.map Value.bool
theorem blv_len (lg : List Bool) : (blv lg).length = lg.length := by simp [blv]
theorem blv_at (lg : List Bool) (i : Nat) (h : i < lg.length) : (blv lg)[i]? = some (.bool (lg.getD i false)) := by simp [blv, List.getD, h]
/-- The lengths in the middle of a turn. -/
def passK (its : List It) (lg : List Bool) (j : Nat) : List Bool := (List.range lg.length).map (fun i => lg.getD i false || (decide (i < j) && grows its lg i))
theorem passK_len (its : List It) (lg : List Bool) (j : Nat) : (passK its lg j).length = lg.length := by simp [passK]
theorem passK_zero (its : List It) (lg : List Bool) : passK its lg 0 = lg := by
  apply List.ext_getElem
  · simp [passK]
  · intro i h1 h2
    simp [passK, List.getD, h2]
theorem passK_end (its : List It) (lg : List Bool) : passK its lg lg.length = turn its lg := by
  unfold passK turn
  apply List.map_congr_left
  intro i hi
  have := List.mem_range.1 hi
  simp [this]
theorem passK_at (its : List It) (lg : List Bool) (j : Nat) (h : j < lg.length) : (passK its lg j).getD j false = lg.getD j false := by
  have e : (passK its lg j).getD j false = (lg.getD j false || (decide (j < j) && grows its lg j)) := by simp [passK, List.getD, h]
  rw [e]
  simp
theorem passK_yes (its : List It) (lg : List Bool) (j : Nat) (h : j < lg.length) (hg : grows its lg j = true) : passK its lg (j + 1) = (passK its lg j).set j true := by
  apply List.ext_getElem
  · simp [passK]
  · intro i h1 h2
    rw [List.getElem_set]
    by_cases e : j = i
    · subst e
      simp [passK, hg]
    · rw [if_neg e]
      simp only [passK, List.getElem_map, List.getElem_range]
      have : decide (i < j + 1) = decide (i < j) := by
        by_cases h' : i < j
        · rw [decide_eq_true h', decide_eq_true (by omega)]
        · rw [decide_eq_false h', decide_eq_false (by omega)]
      rw [this]
theorem passK_no (its : List It) (lg : List Bool) (j : Nat) (hg : grows its lg j = false) : passK its lg (j + 1) = passK its lg j := by
  unfold passK
  apply List.map_congr_left
  intro i hi
  by_cases e : i = j
  · subst e; simp [hg]
  · have : decide (i < j + 1) = decide (i < j) := by
      by_cases h' : i < j
      · rw [decide_eq_true h', decide_eq_true (by omega)]
      · rw [decide_eq_false h', decide_eq_false (by omega)]
    rw [this]
def anyK (its : List It) (lg : List Bool) (j : Nat) : Bool := (List.range j).any (grows its lg)
theorem anyK_succ (its : List It) (lg : List Bool) (j : Nat) : anyK its lg (j + 1) = (anyK its lg j || grows its lg j) := by
  unfold anyK
  rw [List.range_succ, List.any_append]
  simp
theorem anyK_brs {its : List It} {lg : List Bool} : anyK its lg its.length = (brs its).any (grows its lg) := by
  unfold anyK
  cases h : (brs its).any (grows its lg)
  · cases h2 : (List.range its.length).any (grows its lg)
    · rfl
    · obtain ⟨i, hi, hg⟩ := List.any_eq_true.1 h2
      have := List.any_eq_true.2 ⟨i, grows_brs (List.mem_range.1 hi) hg, hg⟩
      rw [this] at h
      cases h
  · obtain ⟨i, hi, hg⟩ := List.any_eq_true.1 h
    exact List.any_eq_true.2 ⟨i, List.mem_range.2 (brs_mem hi).1, hg⟩
theorem turns_br (its : List It) (m : Nat) : ∀ i, i < its.length → (turns its m).getD i false = true → (its.getD i it0).kind = 3 := by
  induction m with
  | zero =>
    intro i hi h
    simp [turns, List.getD, hi] at h
  | succ m ih =>
    intro i hi h
    have h1 : (turns its (m + 1)).getD i false = ((turns its m).getD i false || grows its (turns its m) i) := turn_at its (turns its m) i (by rw [turns_len]; exact hi)
    rw [h1] at h
    simp only [Bool.or_eq_true] at h
    rcases h with h | h
    · exact ih i hi h
    · exact (brs_mem (grows_brs hi h)).2
/-- The last cell of the places. -/
def lastOf (p : Value) (n : Nat) (wr : World) : Nat := match p with
  | .slice (some a) _ _ => (match wr.cell? ⟨a.block, n, none⟩ with | some (.int _ z) => z.toNat | _ => 0)
  | _ => 0
theorem lastOf_eq {B : Nat} {wr : World} {p : Value} {its : List It} {lg : List Bool} {n : Nat} (h : ORow B 2 wr p (plK its lg (n + 1))) : lastOf p n wr = 4 * plN its lg n := by
  obtain ⟨g, c, rfl, _, _, hc⟩ := h.at (by rw [plK_len]; omega)
  have := (hc n _ (plK_at its lg (n + 1) n (by omega))).1
  simp only [lastOf, this]
  omega
def flagOf (v : Value) : Nat := match v with | .bool true => 1 | _ => 0
theorem ORow.bls {B : Nat} {w : World} {v : Value} {lg : List Bool} (h : ORow B 4 w v (blv lg)) : Bls w v lg := by
  obtain ⟨a, c, e⟩ := h.shape
  refine ⟨a, c, by rw [e, blv_len], fun h0 => ?_⟩
  obtain ⟨g, c', e', _, _, hc⟩ := h.at (by rw [blv_len]; exact h0)
  rw [e] at e'
  simp only [Value.slice.injEq, true_and] at e'
  refine ⟨g, e'.1, fun i hi => ?_⟩
  have := (hc i _ (blv_at lg i hi)).1
  simpa [List.getD, hi] using this
theorem ORow.ownNe {B : Nat} {t : TypeId} {w : World} {v : Value} {xs : List Value} (h : ORow B t w v xs) : ∀ g, v.ownBlock = some g → B ≤ g ∧ g < w.heap.size := fun g hg => World.ownsRow.lt h g hg
theorem ORow.store {B : Nat} {t : TypeId} {w : World} {g c : Nat} {xs : List Value} (h : ORow B t w (.slice (some ⟨g, 0, none⟩) xs.length c) xs) (j : Nat) (u : Value) : ORow B t (w.setCell ⟨g, j, none⟩ u) (.slice (some ⟨g, 0, none⟩) xs.length c) (xs.set j u) := by
  have := (World.ownsRow.stored h j u).1
  show World.ownsRow _ _ _ _ _ _ _
  rw [List.length_set]
  exact this
theorem ORow.other {B : Nat} {t : TypeId} {w : World} {v : Value} {xs : List Value} (h : ORow B t w v xs) {g : Nat} (hne : ∀ x, v.ownBlock = some x → x ≠ g) (j : Nat) (u : Value) : ORow B t (w.setCell ⟨g, j, none⟩ u) v xs := by
  have hgr : w.grownBy (w.setCell ⟨g, j, none⟩ u) (some g) := by
    have hb0 := (Below.refl 0 w).setCell (p := ⟨g, j, none⟩) (Nat.zero_le _) u
    exact ⟨hb0.os, hb0.tape, hb0.output, hb0.size, fun i _ hi => Below.heap_setCell _ _ _ i (fun e => hi (by rw [e]))⟩
  exact World.ownsRow.kept h hgr (by
    cases e : v.ownBlock with
    | none => exact .inl rfl
    | some x => exact .inr (fun h' => hne x e (by injection h')))
theorem blv_set (lg : List Bool) (j : Nat) : (blv lg).set j (.bool true) = blv (lg.set j true) := by simp [blv, List.map_set]

end Go.Proofs.Ytkbonhbegpiajaa
