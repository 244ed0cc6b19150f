import Derived.Test.YtijgcjeijcidfaaDoorV0
namespace Go.Proofs.YtijgcjeijcidfaaDoor
set_option linter.unusedVariables false

/-- How many more operands a row of nodes wants, read from its end. -/
def defc : List Nd → Int
  | [] => 1
  | n :: r => defc r + arity n - 1
def goodAll (l : List Nd) : Prop := ∀ n ∈ l, nodeB n = true
theorem wholeTo_iff (l : List Nd) (hg : goodAll l) (k : Int) : wholeTo l k = some 1 ↔ defc l = k ∧ ∀ j, 1 ≤ j → j ≤ l.length → 1 ≤ defc (l.drop j) := by
  induction l generalizing k with
  | nil =>
    simp only [wholeTo, Option.some.injEq, defc, List.length_nil, List.drop_nil]
    constructor
    · rintro rfl; exact ⟨rfl, fun j _ _ => Int.le_refl _⟩
    · rintro ⟨rfl, _⟩; rfl
  | cons n r ih =>
    have hn : nodeB n = true := hg n (by simp)
    have ih' := ih (fun m hm => hg m (by simp [hm]))
    simp only [wholeTo, hn, true_and]
    by_cases ha : arity n ≤ k
    · rw [if_pos ha, ih', defc]
      constructor
      · rintro ⟨h1, h2⟩
        refine ⟨by omega, fun j hj1 hj2 => ?_⟩
        obtain ⟨j', rfl⟩ : ∃ j', j = j' + 1 := ⟨j - 1, by omega⟩
        rw [List.drop_succ_cons]
        rcases Nat.eq_zero_or_pos j' with rfl | hp
        · rw [List.drop_zero]; omega
        · exact h2 j' hp (by simpa using hj2)
      · rintro ⟨h1, h2⟩
        refine ⟨by omega, fun j hj1 hj2 => ?_⟩
        have := h2 (j + 1) (by omega) (by simpa using hj2)
        rwa [List.drop_succ_cons] at this
    · rw [if_neg ha]
      constructor
      · intro h; cases h
      · rintro ⟨h1, h2⟩
        exfalso
        have := h2 1 (Nat.le_refl _) (by simp)
        simp only [List.drop_succ_cons, List.drop_zero] at this
        simp only [defc] at h1
        omega
theorem wholeTo_good (l : List Nd) (k q : Int) (h : wholeTo l k = some q) : goodAll l := by
  induction l generalizing k with
  | nil => intro n hn; cases hn
  | cons m r ih =>
    simp only [wholeTo] at h
    split at h
    · rename_i hm
      intro n hn
      rcases List.mem_cons.1 hn with rfl | hn
      · exact hm.1
      · exact ih _ h n hn
    · cases h
theorem oneB_iff (l : List Nd) : oneB l = true ↔ goodAll l ∧ defc l = 0 ∧ ∀ j, 1 ≤ j → j ≤ l.length → 1 ≤ defc (l.drop j) := by
  constructor
  · intro h
    have h' : wholeTo l 0 = some 1 := by simpa [oneB] using h
    have hg := wholeTo_good l 0 1 h'
    exact ⟨hg, (wholeTo_iff l hg 0).1 h'⟩
  · rintro ⟨hg, h⟩
    have := (wholeTo_iff l hg 0).2 h
    simp [oneB, this]

/-- Where the expression at the end of a row of nodes begins: -1 where it lacks operands. -/
def fromP (l : List Nd) (r : Int) : Prop :=
  (∃ i : Nat, r = i ∧ i < l.length ∧ defc (l.drop i) = 0 ∧ ∀ j, i < j → j ≤ l.length → 1 ≤ defc (l.drop j)) ∨ (r = -1 ∧ ∀ j, j ≤ l.length → 1 ≤ defc (l.drop j))
theorem fromP_one {l : List Nd} {r : Int} (hg : goodAll l) (h : fromP l r) : (r == 0) = oneB l := by
  apply Bool.eq_iff_iff.2
  rw [oneB_iff]
  simp only [beq_iff_eq]
  rcases h with ⟨i, rfl, hi, h0, hj⟩ | ⟨rfl, hj⟩
  · constructor
    · intro h
      obtain rfl : i = 0 := by omega
      exact ⟨hg, by simpa using h0, fun j h1 h2 => hj j (by omega) h2⟩
    · rintro ⟨_, _, h⟩
      rcases Nat.eq_zero_or_pos i with rfl | hp
      · rfl
      · have := h i hp (by omega); omega
  · constructor
    · intro h; omega
    · rintro ⟨_, h, _⟩
      have := hj 0 (Nat.zero_le _)
      rw [List.drop_zero] at this
      omega
theorem defc_drop (l : List Nd) (i : Nat) (h : i < l.length) : defc (l.drop i) = defc (l.drop (i + 1)) + arity l[i] - 1 := by
  rw [List.drop_eq_getElem_cons h, defc]
theorem defc_le (l : List Nd) (hg : goodAll l) : defc l ≤ 1 + 6 * l.length := by
  induction l with
  | nil => simp [defc]
  | cons n r ih =>
    have := ih (fun m hm => hg m (by simp [hm]))
    have := arity_good (hg n (by simp))
    simp only [defc, List.length_cons]
    omega
theorem goodAll_drop {l : List Nd} (hg : goodAll l) (i : Nat) : goodAll (l.drop i) := fun n hn => hg n (List.mem_of_mem_drop hn)

end Go.Proofs.YtijgcjeijcidfaaDoor
