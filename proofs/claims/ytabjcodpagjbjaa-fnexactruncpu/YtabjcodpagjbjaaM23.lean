import Derived.Test.YtabjcodpagjbjaaM09
namespace Go.Proofs.Ytabjcodpagjbjaa
open Go.RowKit
set_option linter.unusedVariables false
set_option linter.unusedSimpArgs false
def inB (x lo hi : Int) : Bool := decide (lo ≤ x ∧ x ≤ hi)
theorem ret_bool' {a b : Bool} (h : a = b) : Ending.returned (.bool a) = .returned (.bool b) := by rw [h]
theorem inB_t {x lo hi : Int} (h : inB x lo hi = true) : lo ≤ x ∧ x ≤ hi := of_decide_eq_true h
theorem inB_f {x lo hi : Int} (h : inB x lo hi = false) : ¬ (lo ≤ x ∧ x ≤ hi) := of_decide_eq_false h
theorem in_any (x lo hi : Int) (w : World) : Calls Try.prog 32 #[.int .i64 x, .int .i64 lo, .int .i64 hi] w fun e w' => e = .returned (.bool (inB x lo hi)) ∧ w' = w := by
  go_enter Try.func32, Try.ntmps32
  go_wp2
  all_goals go_ret
  all_goals exact ⟨ret_bool' (by unfold inB; rw [Bool.eq_iff_iff]; simp; omega), rfl⟩
theorem tm2 (x : Int) : (x.tmod 2 = 0 ∧ x % 2 = 0) ∨ (¬ x.tmod 2 = 0 ∧ ¬ x % 2 = 0) := by
  rcases Int.le_total 0 x with h | h
  · rw [Int.tmod_eq_emod_of_nonneg h]; omega
  · obtain ⟨z, rfl⟩ : ∃ z, x = -z := ⟨-x, by omega⟩
    rw [Int.neg_tmod, Int.tmod_eq_emod_of_nonneg (by omega)]; omega
theorem spNo (op rd s1 s2 im : Int) (w : World) (h : op < 1 ∨ 34 < op) :
    Calls Try.prog 68 #[.agg #[.int .i64 op, .int .i64 rd, .int .i64 s1, .int .i64 s2, .int .i64 im]] w fun e w' => e = .returned (.bool false) ∧ Below w.heap.size w w' := by
  rcases h with h | h
  all_goals
    go_enter Try.func68, Try.ntmps68
    go_wp2
    go_ret
    exact ⟨rfl, (Below.refl _ _).alloc (Nat.le_refl _) _⟩
def vU (rd s1 s2 im : Int) : Bool := decide (0 ≤ rd ∧ rd ≤ 31 ∧ s1 = 0 ∧ s2 = 0 ∧ 0 ≤ im ∧ im ≤ 1048575)
set_option maxHeartbeats 2000000 in
theorem spU (op rd s1 s2 im : Int) (w : World) (h : op = 1) :
    Calls Try.prog 68 #[.agg #[.int .i64 op, .int .i64 rd, .int .i64 s1, .int .i64 s2, .int .i64 im]] w fun e w' => e = .returned (.bool (vU rd s1 s2 im)) ∧ Below w.heap.size w w' := by
  have HH : Hid _ := h
  have hr1 : 1 ≤ op := by omega
  have hr2 : op ≤ 34 := by omega
  clear h
  go_enter Try.func68, Try.ntmps68
  go_wp2_with (first
    | (go_at_call 32; refine (in_any _ _ _ _).mono ?_; rintro e w' ⟨rfl, rfl⟩)
    | (go_at_call 53; refine (shapeU _ _ HH.out).mono ?_; rintro e w' ⟨rfl, rfl⟩)
    | (go_at_call 84; refine (boundsU _ _ HH.out).mono ?_; rintro e w' ⟨rfl, rfl⟩))
  all_goals go_ret
  all_goals refine ⟨ret_bool' ?_, (Below.refl _ _).alloc (Nat.le_refl _) _⟩
  all_goals (clear HH; have T := tm2 im; unfold vU; rw [Bool.eq_iff_iff])
  all_goals (simp only [inB, decide_eq_true_eq, decide_eq_false_iff_not, beq_iff_eq, bne_iff_ne, Bool.not_eq_eq_eq_not, Bool.not_true, Bool.not_false, Bool.or_eq_true, beq_eq_false_iff_ne, bne_eq_false_iff_eq, ne_eq, Bool.false_eq_true, true_iff, false_iff, iff_true] at *; omega)
def vJ (rd s1 s2 im : Int) : Bool := decide (0 ≤ rd ∧ rd ≤ 31 ∧ s1 = 0 ∧ s2 = 0 ∧ -1048576 ≤ im ∧ im ≤ 1048574 ∧ im % 2 = 0)
set_option maxHeartbeats 2000000 in
theorem spJ (op rd s1 s2 im : Int) (w : World) (h : op = 2) :
    Calls Try.prog 68 #[.agg #[.int .i64 op, .int .i64 rd, .int .i64 s1, .int .i64 s2, .int .i64 im]] w fun e w' => e = .returned (.bool (vJ rd s1 s2 im)) ∧ Below w.heap.size w w' := by
  have HH : Hid _ := h
  have hr1 : 1 ≤ op := by omega
  have hr2 : op ≤ 34 := by omega
  clear h
  go_enter Try.func68, Try.ntmps68
  go_wp2_with (first
    | (go_at_call 32; refine (in_any _ _ _ _).mono ?_; rintro e w' ⟨rfl, rfl⟩)
    | (go_at_call 53; refine (shapeJ _ _ HH.out).mono ?_; rintro e w' ⟨rfl, rfl⟩)
    | (go_at_call 84; refine (boundsJ _ _ HH.out).mono ?_; rintro e w' ⟨rfl, rfl⟩))
  all_goals go_ret
  all_goals refine ⟨ret_bool' ?_, (Below.refl _ _).alloc (Nat.le_refl _) _⟩
  all_goals (clear HH; have T := tm2 im; unfold vJ; rw [Bool.eq_iff_iff])
  all_goals (simp only [inB, decide_eq_true_eq, decide_eq_false_iff_not, beq_iff_eq, bne_iff_ne, Bool.not_eq_eq_eq_not, Bool.not_true, Bool.not_false, Bool.or_eq_true, beq_eq_false_iff_ne, bne_eq_false_iff_eq, ne_eq, Bool.false_eq_true, true_iff, false_iff, iff_true] at *; omega)
def vB (rd s1 s2 im : Int) : Bool := decide (rd = 0 ∧ 0 ≤ s1 ∧ s1 ≤ 31 ∧ 0 ≤ s2 ∧ s2 ≤ 31 ∧ -4096 ≤ im ∧ im ≤ 4094 ∧ im % 2 = 0)
set_option maxHeartbeats 2000000 in
theorem spB (op rd s1 s2 im : Int) (w : World) (h : 4 ≤ op ∧ op ≤ 9) :
    Calls Try.prog 68 #[.agg #[.int .i64 op, .int .i64 rd, .int .i64 s1, .int .i64 s2, .int .i64 im]] w fun e w' => e = .returned (.bool (vB rd s1 s2 im)) ∧ Below w.heap.size w w' := by
  have HH : Hid _ := h
  have hr1 : 1 ≤ op := by omega
  have hr2 : op ≤ 34 := by omega
  clear h
  go_enter Try.func68, Try.ntmps68
  go_wp2_with (first
    | (go_at_call 32; refine (in_any _ _ _ _).mono ?_; rintro e w' ⟨rfl, rfl⟩)
    | (go_at_call 53; refine (shapeB _ _ HH.out).mono ?_; rintro e w' ⟨rfl, rfl⟩)
    | (go_at_call 84; refine (boundsB _ _ HH.out).mono ?_; rintro e w' ⟨rfl, rfl⟩))
  all_goals go_ret
  all_goals refine ⟨ret_bool' ?_, (Below.refl _ _).alloc (Nat.le_refl _) _⟩
  all_goals (clear HH; have T := tm2 im; unfold vB; rw [Bool.eq_iff_iff])
  all_goals (simp only [inB, decide_eq_true_eq, decide_eq_false_iff_not, beq_iff_eq, bne_iff_ne, Bool.not_eq_eq_eq_not, Bool.not_true, Bool.not_false, Bool.or_eq_true, beq_eq_false_iff_ne, bne_eq_false_iff_eq, ne_eq, Bool.false_eq_true, true_iff, false_iff, iff_true] at *; omega)
def vS (rd s1 s2 im : Int) : Bool := decide (rd = 0 ∧ 0 ≤ s1 ∧ s1 ≤ 31 ∧ 0 ≤ s2 ∧ s2 ≤ 31 ∧ -2048 ≤ im ∧ im ≤ 2047)
set_option maxHeartbeats 2000000 in
theorem spS (op rd s1 s2 im : Int) (w : World) (h : op = 11) :
    Calls Try.prog 68 #[.agg #[.int .i64 op, .int .i64 rd, .int .i64 s1, .int .i64 s2, .int .i64 im]] w fun e w' => e = .returned (.bool (vS rd s1 s2 im)) ∧ Below w.heap.size w w' := by
  have HH : Hid _ := h
  have hr1 : 1 ≤ op := by omega
  have hr2 : op ≤ 34 := by omega
  clear h
  go_enter Try.func68, Try.ntmps68
  go_wp2_with (first
    | (go_at_call 32; refine (in_any _ _ _ _).mono ?_; rintro e w' ⟨rfl, rfl⟩)
    | (go_at_call 53; refine (shapeS _ _ HH.out).mono ?_; rintro e w' ⟨rfl, rfl⟩)
    | (go_at_call 84; refine (boundsS _ _ HH.out).mono ?_; rintro e w' ⟨rfl, rfl⟩))
  all_goals go_ret
  all_goals refine ⟨ret_bool' ?_, (Below.refl _ _).alloc (Nat.le_refl _) _⟩
  all_goals (clear HH; have T := tm2 im; unfold vS; rw [Bool.eq_iff_iff])
  all_goals (simp only [inB, decide_eq_true_eq, decide_eq_false_iff_not, beq_iff_eq, bne_iff_ne, Bool.not_eq_eq_eq_not, Bool.not_true, Bool.not_false, Bool.or_eq_true, beq_eq_false_iff_ne, bne_eq_false_iff_eq, ne_eq, Bool.false_eq_true, true_iff, false_iff, iff_true] at *; omega)
def vH (rd s1 s2 im : Int) : Bool := decide (0 ≤ rd ∧ rd ≤ 31 ∧ 0 ≤ s1 ∧ s1 ≤ 31 ∧ s2 = 0 ∧ 0 ≤ im ∧ im ≤ 31)
set_option maxHeartbeats 2000000 in
theorem spH (op rd s1 s2 im : Int) (w : World) (h : 18 ≤ op ∧ op ≤ 20) :
    Calls Try.prog 68 #[.agg #[.int .i64 op, .int .i64 rd, .int .i64 s1, .int .i64 s2, .int .i64 im]] w fun e w' => e = .returned (.bool (vH rd s1 s2 im)) ∧ Below w.heap.size w w' := by
  have HH : Hid _ := h
  have hr1 : 1 ≤ op := by omega
  have hr2 : op ≤ 34 := by omega
  clear h
  go_enter Try.func68, Try.ntmps68
  go_wp2_with (first
    | (go_at_call 32; refine (in_any _ _ _ _).mono ?_; rintro e w' ⟨rfl, rfl⟩)
    | (go_at_call 53; refine (shapeH _ _ HH.out).mono ?_; rintro e w' ⟨rfl, rfl⟩)
    | (go_at_call 84; refine (boundsH _ _ HH.out).mono ?_; rintro e w' ⟨rfl, rfl⟩))
  all_goals go_ret
  all_goals refine ⟨ret_bool' ?_, (Below.refl _ _).alloc (Nat.le_refl _) _⟩
  all_goals (clear HH; have T := tm2 im; unfold vH; rw [Bool.eq_iff_iff])
  all_goals (simp only [inB, decide_eq_true_eq, decide_eq_false_iff_not, beq_iff_eq, bne_iff_ne, Bool.not_eq_eq_eq_not, Bool.not_true, Bool.not_false, Bool.or_eq_true, beq_eq_false_iff_ne, bne_eq_false_iff_eq, ne_eq, Bool.false_eq_true, true_iff, false_iff, iff_true] at *; omega)
def vR (rd s1 s2 im : Int) : Bool := decide (0 ≤ rd ∧ rd ≤ 31 ∧ 0 ≤ s1 ∧ s1 ≤ 31 ∧ 0 ≤ s2 ∧ s2 ≤ 31 ∧ im = 0)
set_option maxHeartbeats 2000000 in
theorem spR (op rd s1 s2 im : Int) (w : World) (h : 21 ≤ op ∧ op ≤ 33) :
    Calls Try.prog 68 #[.agg #[.int .i64 op, .int .i64 rd, .int .i64 s1, .int .i64 s2, .int .i64 im]] w fun e w' => e = .returned (.bool (vR rd s1 s2 im)) ∧ Below w.heap.size w w' := by
  have HH : Hid _ := h
  have hr1 : 1 ≤ op := by omega
  have hr2 : op ≤ 34 := by omega
  clear h
  go_enter Try.func68, Try.ntmps68
  go_wp2_with (first
    | (go_at_call 32; refine (in_any _ _ _ _).mono ?_; rintro e w' ⟨rfl, rfl⟩)
    | (go_at_call 53; refine (shapeR _ _ HH.out).mono ?_; rintro e w' ⟨rfl, rfl⟩)
    | (go_at_call 84; refine (boundsR _ _ HH.out).mono ?_; rintro e w' ⟨rfl, rfl⟩))
  all_goals go_ret
  all_goals refine ⟨ret_bool' ?_, (Below.refl _ _).alloc (Nat.le_refl _) _⟩
  all_goals (clear HH; have T := tm2 im; unfold vR; rw [Bool.eq_iff_iff])
  all_goals (simp only [inB, decide_eq_true_eq, decide_eq_false_iff_not, beq_iff_eq, bne_iff_ne, Bool.not_eq_eq_eq_not, Bool.not_true, Bool.not_false, Bool.or_eq_true, beq_eq_false_iff_ne, bne_eq_false_iff_eq, ne_eq, Bool.false_eq_true, true_iff, false_iff, iff_true] at *; omega)
def vE (rd s1 s2 im : Int) : Bool := decide (rd = 0 ∧ s1 = 0 ∧ s2 = 0 ∧ im = 0)
set_option maxHeartbeats 2000000 in
theorem spE (op rd s1 s2 im : Int) (w : World) (h : op = 34) :
    Calls Try.prog 68 #[.agg #[.int .i64 op, .int .i64 rd, .int .i64 s1, .int .i64 s2, .int .i64 im]] w fun e w' => e = .returned (.bool (vE rd s1 s2 im)) ∧ Below w.heap.size w w' := by
  have HH : Hid _ := h
  have hr1 : 1 ≤ op := by omega
  have hr2 : op ≤ 34 := by omega
  clear h
  go_enter Try.func68, Try.ntmps68
  go_wp2_with (first
    | (go_at_call 32; refine (in_any _ _ _ _).mono ?_; rintro e w' ⟨rfl, rfl⟩)
    | (go_at_call 53; refine (shapeE _ _ HH.out).mono ?_; rintro e w' ⟨rfl, rfl⟩)
    | (go_at_call 84; refine (boundsE _ _ HH.out).mono ?_; rintro e w' ⟨rfl, rfl⟩))
  all_goals go_ret
  all_goals refine ⟨ret_bool' ?_, (Below.refl _ _).alloc (Nat.le_refl _) _⟩
  all_goals (clear HH; have T := tm2 im; unfold vE; rw [Bool.eq_iff_iff])
  all_goals (simp only [inB, decide_eq_true_eq, decide_eq_false_iff_not, beq_iff_eq, bne_iff_ne, Bool.not_eq_eq_eq_not, Bool.not_true, Bool.not_false, Bool.or_eq_true, beq_eq_false_iff_ne, bne_eq_false_iff_eq, ne_eq, Bool.false_eq_true, true_iff, false_iff, iff_true] at *; omega)
def vI (rd s1 s2 im : Int) : Bool := decide (0 ≤ rd ∧ rd ≤ 31 ∧ 0 ≤ s1 ∧ s1 ≤ 31 ∧ s2 = 0 ∧ -2048 ≤ im ∧ im ≤ 2047)
set_option maxHeartbeats 2000000 in
theorem spI (op rd s1 s2 im : Int) (w : World) (h : op = 3 ∨ op = 10 ∨ (12 ≤ op ∧ op ≤ 17)) :
    Calls Try.prog 68 #[.agg #[.int .i64 op, .int .i64 rd, .int .i64 s1, .int .i64 s2, .int .i64 im]] w fun e w' => e = .returned (.bool (vI rd s1 s2 im)) ∧ Below w.heap.size w w' := by
  have HH : Hid _ := h
  have hr1 : 1 ≤ op := by omega
  have hr2 : op ≤ 34 := by omega
  clear h
  go_enter Try.func68, Try.ntmps68
  go_wp2_with (first
    | (go_at_call 32; refine (in_any _ _ _ _).mono ?_; rintro e w' ⟨rfl, rfl⟩)
    | (go_at_call 53; refine (shapeI _ _ HH.out).mono ?_; rintro e w' ⟨rfl, rfl⟩)
    | (go_at_call 84; refine (boundsI _ _ HH.out).mono ?_; rintro e w' ⟨rfl, rfl⟩))
  all_goals go_ret
  all_goals refine ⟨ret_bool' ?_, (Below.refl _ _).alloc (Nat.le_refl _) _⟩
  all_goals (clear HH; have T := tm2 im; unfold vI; rw [Bool.eq_iff_iff])
  all_goals (simp only [inB, decide_eq_true_eq, decide_eq_false_iff_not, beq_iff_eq, bne_iff_ne, Bool.not_eq_eq_eq_not, Bool.not_true, Bool.not_false, Bool.or_eq_true, beq_eq_false_iff_ne, bne_eq_false_iff_eq, ne_eq, Bool.false_eq_true, true_iff, false_iff, iff_true] at *; omega)
end Go.Proofs.Ytabjcodpagjbjaa
