import Derived.Test.YtijgcjeijcidfaaDoorW1
namespace Go.Proofs.YtijgcjeijcidfaaDoor
set_option linter.unusedVariables false
/-- Whether each block lies within the one around it. -/
def fitN : Nat → List St → Bool
  | _, [] => true
  | 0, _ :: _ => false
  | n + 1, s :: r => decide (0 ≤ s.thn ∧ s.thn ≤ r.length ∧ 0 ≤ s.els ∧ s.els ≤ r.length - s.thn) && (fitN n (r.take s.thn.toNat) && (fitN n ((r.take (s.thn.toNat + s.els.toNat)).drop s.thn.toNat) && fitN n (r.drop (s.thn.toNat + s.els.toNat))))
def fitB (l : List St) : Bool := fitN l.length l
theorem fitN_any (n m : Nat) (l : List St) (hn : l.length ≤ n) (hm : l.length ≤ m) : fitN n l = fitN m l := by
  induction n generalizing m l with
  | zero =>
    have : l = [] := List.eq_nil_of_length_eq_zero (by omega)
    subst this
    cases m <;> rfl
  | succ n ih =>
    cases l with
    | nil => cases m <;> rfl
    | cons s r =>
      cases m with
      | zero => simp at hm
      | succ m =>
        simp only [List.length_cons] at hn hm
        simp only [fitN]
        rw [ih m (r.take s.thn.toNat) (by simp; omega) (by simp; omega), ih m ((r.take (s.thn.toNat + s.els.toNat)).drop s.thn.toNat) (by simp; omega) (by simp; omega), ih m (r.drop (s.thn.toNat + s.els.toNat)) (by simp; omega) (by simp; omega)]
theorem fitB_nil : fitB [] = true := rfl
theorem fitB_cons (s : St) (r : List St) : fitB (s :: r) = (decide (0 ≤ s.thn ∧ s.thn ≤ r.length ∧ 0 ≤ s.els ∧ s.els ≤ r.length - s.thn) && (fitB (r.take s.thn.toNat) && (fitB ((r.take (s.thn.toNat + s.els.toNat)).drop s.thn.toNat) && fitB (r.drop (s.thn.toNat + s.els.toNat))))) := by
  have h : fitB (s :: r) = fitN (r.length + 1) (s :: r) := rfl
  rw [h]
  simp only [fitN]
  rw [fitN_any r.length _ (r.take s.thn.toNat) (by simp; omega) (Nat.le_refl _), fitN_any r.length _ ((r.take (s.thn.toNat + s.els.toNat)).drop s.thn.toNat) (by simp; omega) (Nat.le_refl _), fitN_any r.length _ (r.drop (s.thn.toNat + s.els.toNat)) (by simp) (Nat.le_refl _)]
  rfl
theorem fitB_all (n : Nat) : ∀ l : List St, l.length ≤ n → fitB l = true → ∀ s ∈ l, 0 ≤ s.thn ∧ 0 ≤ s.els := by
  induction n with
  | zero =>
    intro l hl _ s hs
    have : l = [] := List.eq_nil_of_length_eq_zero (by omega)
    subst this
    cases hs
  | succ n ih =>
    intro l hl h s hs
    cases l with
    | nil => cases hs
    | cons t r =>
      simp only [List.length_cons] at hl
      rw [fitB_cons] at h
      simp only [Bool.and_eq_true, decide_eq_true_eq] at h
      obtain ⟨h0, h1, h2, h3⟩ := h
      rcases List.mem_cons.1 hs with rfl | hs
      · exact ⟨h0.1, h0.2.2.1⟩
      · have hr : r = r.take t.thn.toNat ++ ((r.take (t.thn.toNat + t.els.toNat)).drop t.thn.toNat ++ r.drop (t.thn.toNat + t.els.toNat)) := by
          rw [← List.append_assoc]
          have e : r.take t.thn.toNat ++ (r.take (t.thn.toNat + t.els.toNat)).drop t.thn.toNat = r.take (t.thn.toNat + t.els.toNat) := by
            have := List.take_append_drop t.thn.toNat (r.take (t.thn.toNat + t.els.toNat))
            rwa [List.take_take, Nat.min_eq_left (by omega)] at this
          rw [e, List.take_append_drop]
        rw [hr] at hs
        rcases List.mem_append.1 hs with hs | hs
        · exact ih _ (by simp; omega) h1 s hs
        · rcases List.mem_append.1 hs with hs | hs
          · exact ih _ (by simp; omega) h2 s hs
          · exact ih _ (by simp; omega) h3 s hs
end Go.Proofs.YtijgcjeijcidfaaDoor
