import Derived.Test.YtgcabefonhechaaRows
import Derived.Test.YtgcabefonhechaaBits
import Derived.WalkKit
import Derived.WalkSpells
import Derived.ProofKit
namespace Go.Proofs.Ytgcabefonhechaa
open Go.RowKit
set_option linter.unusedVariables false

theorem i0 (a b : Int) (w : World) :
    Calls Try.prog 5 #[.int .i64 0, .int .i64 a, .int .i64 b] w fun e w' => e = .returned (.int .i64 (wrap32 (wrap32 a * wrap32 b))) ∧ w' = w := by
  have ha := w32_bd a
  have hb := w32_bd b
  have ht := tmod32_bd (wrap32 b)
  have hm := mul_bd (wrap32 a) (wrap32 b) ha hb
  go_enter Try.func5, Try.ntmps5
  go_wp2
  all_goals go_ret
  all_goals refine ⟨ret_int ?_, rfl⟩
  all_goals first | rfl | exact w64_32 _ | (rw [tm32, w64_32, w32_64]) | (rw [tm32]) | exact w64_div _ _ ha | exact bits_and _ _ ha hb | exact bits_or _ _ ha hb | exact bits_xor _ _ ha hb

theorem s0 (a b : Int) (w : World) :
    Calls Try.prog 4 #[.int .i64 0, .int .i64 a, .int .i64 b] w fun e w' => e = .returned (.int .i64 (wrap32 (wrap32 a * wrap32 b))) ∧ w' = w := by
  have ha := w32_bd a
  have hb := w32_bd b
  have ht := tmod32_bd (wrap32 b)
  have hm := mul_bd (wrap32 a) (wrap32 b) ha hb
  go_enter Try.func4, Try.ntmps4
  go_wp2
  all_goals go_ret
  all_goals refine ⟨ret_int ?_, rfl⟩
  all_goals first | rfl | exact w64_32 _ | (rw [tm32, w64_32, w32_64]) | (rw [tm32]) | exact w64_div _ _ ha | exact bits_and _ _ ha hb | exact bits_or _ _ ha hb | exact bits_xor _ _ ha hb

theorem i1z (a b : Int) (w : World) (h0 : wrap32 b = 0) :
    Calls Try.prog 5 #[.int .i64 1, .int .i64 a, .int .i64 b] w fun e w' => e = .returned (.int .i64 (-1)) ∧ w' = w := by
  have ha := w32_bd a
  have hb := w32_bd b
  have ht := tmod32_bd (wrap32 b)
  have H : Hid (wrap32 b = 0) := h0
  have h1 : (wrap32 b == 0) = true := by simp [h0]
  clear h0
  go_enter Try.func5, Try.ntmps5
  go_wp2
  all_goals go_ret
  all_goals refine ⟨ret_int ?_, rfl⟩
  all_goals first | rfl | exact w64_32 _ | (rw [tm32, w64_32, w32_64]) | (rw [tm32]) | exact w64_div _ _ ha | exact bits_and _ _ ha hb | exact bits_or _ _ ha hb | exact bits_xor _ _ ha hb

theorem i1n (a b : Int) (w : World) (h0 : ¬ wrap32 b = 0) :
    Calls Try.prog 5 #[.int .i64 1, .int .i64 a, .int .i64 b] w fun e w' => e = .returned (.int .i64 (wrap32 ((wrap32 a).tdiv (wrap32 b)))) ∧ w' = w := by
  have ha := w32_bd a
  have hb := w32_bd b
  have ht := tmod32_bd (wrap32 b)
  have h1 : (wrap32 b == 0) = false := by simp [h0]
  have hd := tdiv_bd (wrap32 a) (wrap32 b) ha
  go_enter Try.func5, Try.ntmps5
  go_wp2
  all_goals go_ret
  all_goals refine ⟨ret_int ?_, rfl⟩
  all_goals first | rfl | exact w64_32 _ | (rw [tm32, w64_32, w32_64]) | (rw [tm32]) | exact w64_div _ _ ha | exact bits_and _ _ ha hb | exact bits_or _ _ ha hb | exact bits_xor _ _ ha hb

theorem s1z (a b : Int) (w : World) (h0 : wrap32 b = 0) :
    Calls Try.prog 4 #[.int .i64 1, .int .i64 a, .int .i64 b] w fun e w' => e = .returned (.int .i64 (-1)) ∧ w' = w := by
  have ha := w32_bd a
  have hb := w32_bd b
  have ht := tmod32_bd (wrap32 b)
  have H : Hid (wrap32 b = 0) := h0
  have h1 : (wrap32 b == 0) = true := by simp [h0]
  clear h0
  go_enter Try.func4, Try.ntmps4
  go_wp2
  all_goals go_ret
  all_goals refine ⟨ret_int ?_, rfl⟩
  all_goals first | rfl | exact w64_32 _ | (rw [tm32, w64_32, w32_64]) | (rw [tm32]) | exact w64_div _ _ ha | exact bits_and _ _ ha hb | exact bits_or _ _ ha hb | exact bits_xor _ _ ha hb

theorem s1n (a b : Int) (w : World) (h0 : ¬ wrap32 b = 0) :
    Calls Try.prog 4 #[.int .i64 1, .int .i64 a, .int .i64 b] w fun e w' => e = .returned (.int .i64 (wrap32 ((wrap32 a).tdiv (wrap32 b)))) ∧ w' = w := by
  have ha := w32_bd a
  have hb := w32_bd b
  have ht := tmod32_bd (wrap32 b)
  have h1 : (wrap32 b == 0) = false := by simp [h0]
  have hd := tdiv_bd (wrap32 a) (wrap32 b) ha
  go_enter Try.func4, Try.ntmps4
  go_wp2
  all_goals go_ret
  all_goals refine ⟨ret_int ?_, rfl⟩
  all_goals first | rfl | exact w64_32 _ | (rw [tm32, w64_32, w32_64]) | (rw [tm32]) | exact w64_div _ _ ha | exact bits_and _ _ ha hb | exact bits_or _ _ ha hb | exact bits_xor _ _ ha hb

theorem i2z (a b : Int) (w : World) (h0 : wrap32 b = 0) :
    Calls Try.prog 5 #[.int .i64 2, .int .i64 a, .int .i64 b] w fun e w' => e = .returned (.int .i64 (wrap32 a)) ∧ w' = w := by
  have ha := w32_bd a
  have hb := w32_bd b
  have ht := tmod32_bd (wrap32 b)
  have H : Hid (wrap32 b = 0) := h0
  have h1 : (wrap32 b == 0) = true := by simp [h0]
  clear h0
  go_enter Try.func5, Try.ntmps5
  go_wp2
  all_goals go_ret
  all_goals refine ⟨ret_int ?_, rfl⟩
  all_goals first | rfl | exact w64_32 _ | (rw [tm32, w64_32, w32_64]) | (rw [tm32]) | exact w64_div _ _ ha | exact bits_and _ _ ha hb | exact bits_or _ _ ha hb | exact bits_xor _ _ ha hb

theorem i2n (a b : Int) (w : World) (h0 : ¬ wrap32 b = 0) :
    Calls Try.prog 5 #[.int .i64 2, .int .i64 a, .int .i64 b] w fun e w' => e = .returned (.int .i64 ((wrap32 a).tmod (wrap32 b))) ∧ w' = w := by
  have ha := w32_bd a
  have hb := w32_bd b
  have ht := tmod32_bd (wrap32 b)
  have h1 : (wrap32 b == 0) = false := by simp [h0]
  have hd := tmod_bd (wrap32 a) (wrap32 b) ha
  go_enter Try.func5, Try.ntmps5
  go_wp2
  all_goals go_ret
  all_goals refine ⟨ret_int ?_, rfl⟩
  all_goals first | rfl | exact w64_32 _ | (rw [tm32, w64_32, w32_64]) | (rw [tm32]) | exact w64_div _ _ ha | exact bits_and _ _ ha hb | exact bits_or _ _ ha hb | exact bits_xor _ _ ha hb

theorem s2z (a b : Int) (w : World) (h0 : wrap32 b = 0) :
    Calls Try.prog 4 #[.int .i64 2, .int .i64 a, .int .i64 b] w fun e w' => e = .returned (.int .i64 (wrap32 a)) ∧ w' = w := by
  have ha := w32_bd a
  have hb := w32_bd b
  have ht := tmod32_bd (wrap32 b)
  have H : Hid (wrap32 b = 0) := h0
  have h1 : (wrap32 b == 0) = true := by simp [h0]
  clear h0
  go_enter Try.func4, Try.ntmps4
  go_wp2
  all_goals go_ret
  all_goals refine ⟨ret_int ?_, rfl⟩
  all_goals first | rfl | exact w64_32 _ | (rw [tm32, w64_32, w32_64]) | (rw [tm32]) | exact w64_div _ _ ha | exact bits_and _ _ ha hb | exact bits_or _ _ ha hb | exact bits_xor _ _ ha hb

theorem s2n (a b : Int) (w : World) (h0 : ¬ wrap32 b = 0) :
    Calls Try.prog 4 #[.int .i64 2, .int .i64 a, .int .i64 b] w fun e w' => e = .returned (.int .i64 ((wrap32 a).tmod (wrap32 b))) ∧ w' = w := by
  have ha := w32_bd a
  have hb := w32_bd b
  have ht := tmod32_bd (wrap32 b)
  have h1 : (wrap32 b == 0) = false := by simp [h0]
  have hd := tmod_bd (wrap32 a) (wrap32 b) ha
  go_enter Try.func4, Try.ntmps4
  go_wp2
  all_goals go_ret
  all_goals refine ⟨ret_int ?_, rfl⟩
  all_goals first | rfl | exact w64_32 _ | (rw [tm32, w64_32, w32_64]) | (rw [tm32]) | exact w64_div _ _ ha | exact bits_and _ _ ha hb | exact bits_or _ _ ha hb | exact bits_xor _ _ ha hb

theorem i3 (a b : Int) (w : World) :
    Calls Try.prog 5 #[.int .i64 3, .int .i64 a, .int .i64 b] w fun e w' => e = .returned (.int .i64 (wrap32 (wrap32 a + wrap32 b))) ∧ w' = w := by
  have ha := w32_bd a
  have hb := w32_bd b
  have ht := tmod32_bd (wrap32 b)
  go_enter Try.func5, Try.ntmps5
  go_wp2
  all_goals go_ret
  all_goals refine ⟨ret_int ?_, rfl⟩
  all_goals first | rfl | exact w64_32 _ | (rw [tm32, w64_32, w32_64]) | (rw [tm32]) | exact w64_div _ _ ha | exact bits_and _ _ ha hb | exact bits_or _ _ ha hb | exact bits_xor _ _ ha hb

theorem s3 (a b : Int) (w : World) :
    Calls Try.prog 4 #[.int .i64 3, .int .i64 a, .int .i64 b] w fun e w' => e = .returned (.int .i64 (wrap32 (wrap32 a + wrap32 b))) ∧ w' = w := by
  have ha := w32_bd a
  have hb := w32_bd b
  have ht := tmod32_bd (wrap32 b)
  go_enter Try.func4, Try.ntmps4
  go_wp2
  all_goals go_ret
  all_goals refine ⟨ret_int ?_, rfl⟩
  all_goals first | rfl | exact w64_32 _ | (rw [tm32, w64_32, w32_64]) | (rw [tm32]) | exact w64_div _ _ ha | exact bits_and _ _ ha hb | exact bits_or _ _ ha hb | exact bits_xor _ _ ha hb

theorem i4 (a b : Int) (w : World) :
    Calls Try.prog 5 #[.int .i64 4, .int .i64 a, .int .i64 b] w fun e w' => e = .returned (.int .i64 (wrap32 (wrap32 a - wrap32 b))) ∧ w' = w := by
  have ha := w32_bd a
  have hb := w32_bd b
  have ht := tmod32_bd (wrap32 b)
  go_enter Try.func5, Try.ntmps5
  go_wp2
  all_goals go_ret
  all_goals refine ⟨ret_int ?_, rfl⟩
  all_goals first | rfl | exact w64_32 _ | (rw [tm32, w64_32, w32_64]) | (rw [tm32]) | exact w64_div _ _ ha | exact bits_and _ _ ha hb | exact bits_or _ _ ha hb | exact bits_xor _ _ ha hb

theorem s4 (a b : Int) (w : World) :
    Calls Try.prog 4 #[.int .i64 4, .int .i64 a, .int .i64 b] w fun e w' => e = .returned (.int .i64 (wrap32 (wrap32 a - wrap32 b))) ∧ w' = w := by
  have ha := w32_bd a
  have hb := w32_bd b
  have ht := tmod32_bd (wrap32 b)
  go_enter Try.func4, Try.ntmps4
  go_wp2
  all_goals go_ret
  all_goals refine ⟨ret_int ?_, rfl⟩
  all_goals first | rfl | exact w64_32 _ | (rw [tm32, w64_32, w32_64]) | (rw [tm32]) | exact w64_div _ _ ha | exact bits_and _ _ ha hb | exact bits_or _ _ ha hb | exact bits_xor _ _ ha hb

theorem i5 (a b : Int) (w : World) :
    Calls Try.prog 5 #[.int .i64 5, .int .i64 a, .int .i64 b] w fun e w' => e = .returned (.int .i64 (wrap32 (wrap32 a * 2 ^ (wrap32 b % 32).toNat))) ∧ w' = w := by
  have ha := w32_bd a
  have hb := w32_bd b
  have ht := tmod32_bd (wrap32 b)
  go_enter Try.func5, Try.ntmps5
  go_wp2
  all_goals go_ret
  all_goals refine ⟨ret_int ?_, rfl⟩
  all_goals first | rfl | exact w64_32 _ | (rw [tm32, w64_32, w32_64]) | (rw [tm32]) | exact w64_div _ _ ha | exact bits_and _ _ ha hb | exact bits_or _ _ ha hb | exact bits_xor _ _ ha hb

theorem s5 (a b : Int) (w : World) :
    Calls Try.prog 4 #[.int .i64 5, .int .i64 a, .int .i64 b] w fun e w' => e = .returned (.int .i64 (wrap32 (wrap32 a * 2 ^ (wrap32 b % 32).toNat))) ∧ w' = w := by
  have ha := w32_bd a
  have hb := w32_bd b
  have ht := tmod32_bd (wrap32 b)
  go_enter Try.func4, Try.ntmps4
  go_wp2
  all_goals go_ret
  all_goals refine ⟨ret_int ?_, rfl⟩
  all_goals first | rfl | exact w64_32 _ | (rw [tm32, w64_32, w32_64]) | (rw [tm32]) | exact w64_div _ _ ha | exact bits_and _ _ ha hb | exact bits_or _ _ ha hb | exact bits_xor _ _ ha hb

theorem i6 (a b : Int) (w : World) :
    Calls Try.prog 5 #[.int .i64 6, .int .i64 a, .int .i64 b] w fun e w' => e = .returned (.int .i64 (wrap32 a / 2 ^ (wrap32 b % 32).toNat)) ∧ w' = w := by
  have ha := w32_bd a
  have hb := w32_bd b
  have ht := tmod32_bd (wrap32 b)
  go_enter Try.func5, Try.ntmps5
  go_wp2
  all_goals go_ret
  all_goals refine ⟨ret_int ?_, rfl⟩
  all_goals first | rfl | exact w64_32 _ | (rw [tm32, w64_32, w32_64]) | (rw [tm32]) | exact w64_div _ _ ha | exact bits_and _ _ ha hb | exact bits_or _ _ ha hb | exact bits_xor _ _ ha hb

theorem s6 (a b : Int) (w : World) :
    Calls Try.prog 4 #[.int .i64 6, .int .i64 a, .int .i64 b] w fun e w' => e = .returned (.int .i64 (wrap32 a / 2 ^ (wrap32 b % 32).toNat)) ∧ w' = w := by
  have ha := w32_bd a
  have hb := w32_bd b
  have ht := tmod32_bd (wrap32 b)
  go_enter Try.func4, Try.ntmps4
  go_wp2
  all_goals go_ret
  all_goals refine ⟨ret_int ?_, rfl⟩
  all_goals first | rfl | exact w64_32 _ | (rw [tm32, w64_32, w32_64]) | (rw [tm32]) | exact w64_div _ _ ha | exact bits_and _ _ ha hb | exact bits_or _ _ ha hb | exact bits_xor _ _ ha hb

theorem i7t (a b : Int) (w : World) (h : wrap32 a < wrap32 b) :
    Calls Try.prog 5 #[.int .i64 7, .int .i64 a, .int .i64 b] w fun e w' => e = .returned (.int .i64 (1)) ∧ w' = w := by
  have ha := w32_bd a
  have hb := w32_bd b
  have ht := tmod32_bd (wrap32 b)
  go_enter Try.func5, Try.ntmps5
  go_wp2
  all_goals go_ret
  all_goals refine ⟨ret_int ?_, rfl⟩
  all_goals first | rfl | exact w64_32 _ | (rw [tm32, w64_32, w32_64]) | (rw [tm32]) | exact w64_div _ _ ha | exact bits_and _ _ ha hb | exact bits_or _ _ ha hb | exact bits_xor _ _ ha hb

theorem i7f (a b : Int) (w : World) (h : ¬ wrap32 a < wrap32 b) :
    Calls Try.prog 5 #[.int .i64 7, .int .i64 a, .int .i64 b] w fun e w' => e = .returned (.int .i64 (0)) ∧ w' = w := by
  have ha := w32_bd a
  have hb := w32_bd b
  have ht := tmod32_bd (wrap32 b)
  go_enter Try.func5, Try.ntmps5
  go_wp2
  all_goals go_ret
  all_goals refine ⟨ret_int ?_, rfl⟩
  all_goals first | rfl | exact w64_32 _ | (rw [tm32, w64_32, w32_64]) | (rw [tm32]) | exact w64_div _ _ ha | exact bits_and _ _ ha hb | exact bits_or _ _ ha hb | exact bits_xor _ _ ha hb

theorem s7t (a b : Int) (w : World) (h : wrap32 a < wrap32 b) :
    Calls Try.prog 4 #[.int .i64 7, .int .i64 a, .int .i64 b] w fun e w' => e = .returned (.int .i64 (1)) ∧ w' = w := by
  have ha := w32_bd a
  have hb := w32_bd b
  have ht := tmod32_bd (wrap32 b)
  go_enter Try.func4, Try.ntmps4
  go_wp2
  all_goals go_ret
  all_goals refine ⟨ret_int ?_, rfl⟩
  all_goals first | rfl | exact w64_32 _ | (rw [tm32, w64_32, w32_64]) | (rw [tm32]) | exact w64_div _ _ ha | exact bits_and _ _ ha hb | exact bits_or _ _ ha hb | exact bits_xor _ _ ha hb

theorem s7f (a b : Int) (w : World) (h : ¬ wrap32 a < wrap32 b) :
    Calls Try.prog 4 #[.int .i64 7, .int .i64 a, .int .i64 b] w fun e w' => e = .returned (.int .i64 (0)) ∧ w' = w := by
  have ha := w32_bd a
  have hb := w32_bd b
  have ht := tmod32_bd (wrap32 b)
  go_enter Try.func4, Try.ntmps4
  go_wp2
  all_goals go_ret
  all_goals refine ⟨ret_int ?_, rfl⟩
  all_goals first | rfl | exact w64_32 _ | (rw [tm32, w64_32, w32_64]) | (rw [tm32]) | exact w64_div _ _ ha | exact bits_and _ _ ha hb | exact bits_or _ _ ha hb | exact bits_xor _ _ ha hb

theorem i8t (a b : Int) (w : World) (h : wrap32 a ≤ wrap32 b) :
    Calls Try.prog 5 #[.int .i64 8, .int .i64 a, .int .i64 b] w fun e w' => e = .returned (.int .i64 (1)) ∧ w' = w := by
  have ha := w32_bd a
  have hb := w32_bd b
  have ht := tmod32_bd (wrap32 b)
  go_enter Try.func5, Try.ntmps5
  go_wp2
  all_goals go_ret
  all_goals refine ⟨ret_int ?_, rfl⟩
  all_goals first | rfl | exact w64_32 _ | (rw [tm32, w64_32, w32_64]) | (rw [tm32]) | exact w64_div _ _ ha | exact bits_and _ _ ha hb | exact bits_or _ _ ha hb | exact bits_xor _ _ ha hb

theorem i8f (a b : Int) (w : World) (h : ¬ wrap32 a ≤ wrap32 b) :
    Calls Try.prog 5 #[.int .i64 8, .int .i64 a, .int .i64 b] w fun e w' => e = .returned (.int .i64 (0)) ∧ w' = w := by
  have ha := w32_bd a
  have hb := w32_bd b
  have ht := tmod32_bd (wrap32 b)
  go_enter Try.func5, Try.ntmps5
  go_wp2
  all_goals go_ret
  all_goals refine ⟨ret_int ?_, rfl⟩
  all_goals first | rfl | exact w64_32 _ | (rw [tm32, w64_32, w32_64]) | (rw [tm32]) | exact w64_div _ _ ha | exact bits_and _ _ ha hb | exact bits_or _ _ ha hb | exact bits_xor _ _ ha hb

theorem s8t (a b : Int) (w : World) (h : wrap32 a ≤ wrap32 b) :
    Calls Try.prog 4 #[.int .i64 8, .int .i64 a, .int .i64 b] w fun e w' => e = .returned (.int .i64 (1)) ∧ w' = w := by
  have ha := w32_bd a
  have hb := w32_bd b
  have ht := tmod32_bd (wrap32 b)
  go_enter Try.func4, Try.ntmps4
  go_wp2
  all_goals go_ret
  all_goals refine ⟨ret_int ?_, rfl⟩
  all_goals first | rfl | exact w64_32 _ | (rw [tm32, w64_32, w32_64]) | (rw [tm32]) | exact w64_div _ _ ha | exact bits_and _ _ ha hb | exact bits_or _ _ ha hb | exact bits_xor _ _ ha hb

theorem s8f (a b : Int) (w : World) (h : ¬ wrap32 a ≤ wrap32 b) :
    Calls Try.prog 4 #[.int .i64 8, .int .i64 a, .int .i64 b] w fun e w' => e = .returned (.int .i64 (0)) ∧ w' = w := by
  have ha := w32_bd a
  have hb := w32_bd b
  have ht := tmod32_bd (wrap32 b)
  go_enter Try.func4, Try.ntmps4
  go_wp2
  all_goals go_ret
  all_goals refine ⟨ret_int ?_, rfl⟩
  all_goals first | rfl | exact w64_32 _ | (rw [tm32, w64_32, w32_64]) | (rw [tm32]) | exact w64_div _ _ ha | exact bits_and _ _ ha hb | exact bits_or _ _ ha hb | exact bits_xor _ _ ha hb

theorem i9t (a b : Int) (w : World) (h : wrap32 b < wrap32 a) :
    Calls Try.prog 5 #[.int .i64 9, .int .i64 a, .int .i64 b] w fun e w' => e = .returned (.int .i64 (1)) ∧ w' = w := by
  have ha := w32_bd a
  have hb := w32_bd b
  have ht := tmod32_bd (wrap32 b)
  go_enter Try.func5, Try.ntmps5
  go_wp2
  all_goals go_ret
  all_goals refine ⟨ret_int ?_, rfl⟩
  all_goals first | rfl | exact w64_32 _ | (rw [tm32, w64_32, w32_64]) | (rw [tm32]) | exact w64_div _ _ ha | exact bits_and _ _ ha hb | exact bits_or _ _ ha hb | exact bits_xor _ _ ha hb

theorem i9f (a b : Int) (w : World) (h : ¬ wrap32 b < wrap32 a) :
    Calls Try.prog 5 #[.int .i64 9, .int .i64 a, .int .i64 b] w fun e w' => e = .returned (.int .i64 (0)) ∧ w' = w := by
  have ha := w32_bd a
  have hb := w32_bd b
  have ht := tmod32_bd (wrap32 b)
  go_enter Try.func5, Try.ntmps5
  go_wp2
  all_goals go_ret
  all_goals refine ⟨ret_int ?_, rfl⟩
  all_goals first | rfl | exact w64_32 _ | (rw [tm32, w64_32, w32_64]) | (rw [tm32]) | exact w64_div _ _ ha | exact bits_and _ _ ha hb | exact bits_or _ _ ha hb | exact bits_xor _ _ ha hb

theorem s9t (a b : Int) (w : World) (h : wrap32 b < wrap32 a) :
    Calls Try.prog 4 #[.int .i64 9, .int .i64 a, .int .i64 b] w fun e w' => e = .returned (.int .i64 (1)) ∧ w' = w := by
  have ha := w32_bd a
  have hb := w32_bd b
  have ht := tmod32_bd (wrap32 b)
  go_enter Try.func4, Try.ntmps4
  go_wp2
  all_goals go_ret
  all_goals refine ⟨ret_int ?_, rfl⟩
  all_goals first | rfl | exact w64_32 _ | (rw [tm32, w64_32, w32_64]) | (rw [tm32]) | exact w64_div _ _ ha | exact bits_and _ _ ha hb | exact bits_or _ _ ha hb | exact bits_xor _ _ ha hb

theorem s9f (a b : Int) (w : World) (h : ¬ wrap32 b < wrap32 a) :
    Calls Try.prog 4 #[.int .i64 9, .int .i64 a, .int .i64 b] w fun e w' => e = .returned (.int .i64 (0)) ∧ w' = w := by
  have ha := w32_bd a
  have hb := w32_bd b
  have ht := tmod32_bd (wrap32 b)
  go_enter Try.func4, Try.ntmps4
  go_wp2
  all_goals go_ret
  all_goals refine ⟨ret_int ?_, rfl⟩
  all_goals first | rfl | exact w64_32 _ | (rw [tm32, w64_32, w32_64]) | (rw [tm32]) | exact w64_div _ _ ha | exact bits_and _ _ ha hb | exact bits_or _ _ ha hb | exact bits_xor _ _ ha hb

theorem i10t (a b : Int) (w : World) (h : wrap32 b ≤ wrap32 a) :
    Calls Try.prog 5 #[.int .i64 10, .int .i64 a, .int .i64 b] w fun e w' => e = .returned (.int .i64 (1)) ∧ w' = w := by
  have ha := w32_bd a
  have hb := w32_bd b
  have ht := tmod32_bd (wrap32 b)
  go_enter Try.func5, Try.ntmps5
  go_wp2
  all_goals go_ret
  all_goals refine ⟨ret_int ?_, rfl⟩
  all_goals first | rfl | exact w64_32 _ | (rw [tm32, w64_32, w32_64]) | (rw [tm32]) | exact w64_div _ _ ha | exact bits_and _ _ ha hb | exact bits_or _ _ ha hb | exact bits_xor _ _ ha hb

theorem i10f (a b : Int) (w : World) (h : ¬ wrap32 b ≤ wrap32 a) :
    Calls Try.prog 5 #[.int .i64 10, .int .i64 a, .int .i64 b] w fun e w' => e = .returned (.int .i64 (0)) ∧ w' = w := by
  have ha := w32_bd a
  have hb := w32_bd b
  have ht := tmod32_bd (wrap32 b)
  go_enter Try.func5, Try.ntmps5
  go_wp2
  all_goals go_ret
  all_goals refine ⟨ret_int ?_, rfl⟩
  all_goals first | rfl | exact w64_32 _ | (rw [tm32, w64_32, w32_64]) | (rw [tm32]) | exact w64_div _ _ ha | exact bits_and _ _ ha hb | exact bits_or _ _ ha hb | exact bits_xor _ _ ha hb

theorem s10t (a b : Int) (w : World) (h : wrap32 b ≤ wrap32 a) :
    Calls Try.prog 4 #[.int .i64 10, .int .i64 a, .int .i64 b] w fun e w' => e = .returned (.int .i64 (1)) ∧ w' = w := by
  have ha := w32_bd a
  have hb := w32_bd b
  have ht := tmod32_bd (wrap32 b)
  go_enter Try.func4, Try.ntmps4
  go_wp2
  all_goals go_ret
  all_goals refine ⟨ret_int ?_, rfl⟩
  all_goals first | rfl | exact w64_32 _ | (rw [tm32, w64_32, w32_64]) | (rw [tm32]) | exact w64_div _ _ ha | exact bits_and _ _ ha hb | exact bits_or _ _ ha hb | exact bits_xor _ _ ha hb

theorem s10f (a b : Int) (w : World) (h : ¬ wrap32 b ≤ wrap32 a) :
    Calls Try.prog 4 #[.int .i64 10, .int .i64 a, .int .i64 b] w fun e w' => e = .returned (.int .i64 (0)) ∧ w' = w := by
  have ha := w32_bd a
  have hb := w32_bd b
  have ht := tmod32_bd (wrap32 b)
  go_enter Try.func4, Try.ntmps4
  go_wp2
  all_goals go_ret
  all_goals refine ⟨ret_int ?_, rfl⟩
  all_goals first | rfl | exact w64_32 _ | (rw [tm32, w64_32, w32_64]) | (rw [tm32]) | exact w64_div _ _ ha | exact bits_and _ _ ha hb | exact bits_or _ _ ha hb | exact bits_xor _ _ ha hb

theorem i11t (a b : Int) (w : World) (h : wrap32 a = wrap32 b) :
    Calls Try.prog 5 #[.int .i64 11, .int .i64 a, .int .i64 b] w fun e w' => e = .returned (.int .i64 (1)) ∧ w' = w := by
  have ha := w32_bd a
  have hb := w32_bd b
  have ht := tmod32_bd (wrap32 b)
  have hq : (wrap32 a == wrap32 b) = true := by simp [h]
  clear h
  go_enter Try.func5, Try.ntmps5
  go_wp2
  all_goals go_ret
  all_goals refine ⟨ret_int ?_, rfl⟩
  all_goals first | rfl | exact w64_32 _ | (rw [tm32, w64_32, w32_64]) | (rw [tm32]) | exact w64_div _ _ ha | exact bits_and _ _ ha hb | exact bits_or _ _ ha hb | exact bits_xor _ _ ha hb

theorem i11f (a b : Int) (w : World) (h : ¬ wrap32 a = wrap32 b) :
    Calls Try.prog 5 #[.int .i64 11, .int .i64 a, .int .i64 b] w fun e w' => e = .returned (.int .i64 (0)) ∧ w' = w := by
  have ha := w32_bd a
  have hb := w32_bd b
  have ht := tmod32_bd (wrap32 b)
  have hq : (wrap32 a == wrap32 b) = false := by simp [h]
  clear h
  go_enter Try.func5, Try.ntmps5
  go_wp2
  all_goals go_ret
  all_goals refine ⟨ret_int ?_, rfl⟩
  all_goals first | rfl | exact w64_32 _ | (rw [tm32, w64_32, w32_64]) | (rw [tm32]) | exact w64_div _ _ ha | exact bits_and _ _ ha hb | exact bits_or _ _ ha hb | exact bits_xor _ _ ha hb

theorem s11t (a b : Int) (w : World) (h : wrap32 a = wrap32 b) :
    Calls Try.prog 4 #[.int .i64 11, .int .i64 a, .int .i64 b] w fun e w' => e = .returned (.int .i64 (1)) ∧ w' = w := by
  have ha := w32_bd a
  have hb := w32_bd b
  have ht := tmod32_bd (wrap32 b)
  have hq : (wrap32 a == wrap32 b) = true := by simp [h]
  clear h
  go_enter Try.func4, Try.ntmps4
  go_wp2
  all_goals go_ret
  all_goals refine ⟨ret_int ?_, rfl⟩
  all_goals first | rfl | exact w64_32 _ | (rw [tm32, w64_32, w32_64]) | (rw [tm32]) | exact w64_div _ _ ha | exact bits_and _ _ ha hb | exact bits_or _ _ ha hb | exact bits_xor _ _ ha hb

theorem s11f (a b : Int) (w : World) (h : ¬ wrap32 a = wrap32 b) :
    Calls Try.prog 4 #[.int .i64 11, .int .i64 a, .int .i64 b] w fun e w' => e = .returned (.int .i64 (0)) ∧ w' = w := by
  have ha := w32_bd a
  have hb := w32_bd b
  have ht := tmod32_bd (wrap32 b)
  have hq : (wrap32 a == wrap32 b) = false := by simp [h]
  clear h
  go_enter Try.func4, Try.ntmps4
  go_wp2
  all_goals go_ret
  all_goals refine ⟨ret_int ?_, rfl⟩
  all_goals first | rfl | exact w64_32 _ | (rw [tm32, w64_32, w32_64]) | (rw [tm32]) | exact w64_div _ _ ha | exact bits_and _ _ ha hb | exact bits_or _ _ ha hb | exact bits_xor _ _ ha hb

theorem i12t (a b : Int) (w : World) (h : wrap32 a ≠ wrap32 b) :
    Calls Try.prog 5 #[.int .i64 12, .int .i64 a, .int .i64 b] w fun e w' => e = .returned (.int .i64 (1)) ∧ w' = w := by
  have ha := w32_bd a
  have hb := w32_bd b
  have ht := tmod32_bd (wrap32 b)
  have hq : (wrap32 a != wrap32 b) = true := by simp [h]
  clear h
  go_enter Try.func5, Try.ntmps5
  go_wp2
  all_goals go_ret
  all_goals refine ⟨ret_int ?_, rfl⟩
  all_goals first | rfl | exact w64_32 _ | (rw [tm32, w64_32, w32_64]) | (rw [tm32]) | exact w64_div _ _ ha | exact bits_and _ _ ha hb | exact bits_or _ _ ha hb | exact bits_xor _ _ ha hb

theorem i12f (a b : Int) (w : World) (h : ¬ wrap32 a ≠ wrap32 b) :
    Calls Try.prog 5 #[.int .i64 12, .int .i64 a, .int .i64 b] w fun e w' => e = .returned (.int .i64 (0)) ∧ w' = w := by
  have ha := w32_bd a
  have hb := w32_bd b
  have ht := tmod32_bd (wrap32 b)
  have hq : (wrap32 a != wrap32 b) = false := by simp at h; simp [h]
  clear h
  go_enter Try.func5, Try.ntmps5
  go_wp2
  all_goals go_ret
  all_goals refine ⟨ret_int ?_, rfl⟩
  all_goals first | rfl | exact w64_32 _ | (rw [tm32, w64_32, w32_64]) | (rw [tm32]) | exact w64_div _ _ ha | exact bits_and _ _ ha hb | exact bits_or _ _ ha hb | exact bits_xor _ _ ha hb

theorem s12t (a b : Int) (w : World) (h : wrap32 a ≠ wrap32 b) :
    Calls Try.prog 4 #[.int .i64 12, .int .i64 a, .int .i64 b] w fun e w' => e = .returned (.int .i64 (1)) ∧ w' = w := by
  have ha := w32_bd a
  have hb := w32_bd b
  have ht := tmod32_bd (wrap32 b)
  have hq : (wrap32 a != wrap32 b) = true := by simp [h]
  clear h
  go_enter Try.func4, Try.ntmps4
  go_wp2
  all_goals go_ret
  all_goals refine ⟨ret_int ?_, rfl⟩
  all_goals first | rfl | exact w64_32 _ | (rw [tm32, w64_32, w32_64]) | (rw [tm32]) | exact w64_div _ _ ha | exact bits_and _ _ ha hb | exact bits_or _ _ ha hb | exact bits_xor _ _ ha hb

theorem s12f (a b : Int) (w : World) (h : ¬ wrap32 a ≠ wrap32 b) :
    Calls Try.prog 4 #[.int .i64 12, .int .i64 a, .int .i64 b] w fun e w' => e = .returned (.int .i64 (0)) ∧ w' = w := by
  have ha := w32_bd a
  have hb := w32_bd b
  have ht := tmod32_bd (wrap32 b)
  have hq : (wrap32 a != wrap32 b) = false := by simp at h; simp [h]
  clear h
  go_enter Try.func4, Try.ntmps4
  go_wp2
  all_goals go_ret
  all_goals refine ⟨ret_int ?_, rfl⟩
  all_goals first | rfl | exact w64_32 _ | (rw [tm32, w64_32, w32_64]) | (rw [tm32]) | exact w64_div _ _ ha | exact bits_and _ _ ha hb | exact bits_or _ _ ha hb | exact bits_xor _ _ ha hb

theorem i13 (a b : Int) (w : World) :
    Calls Try.prog 5 #[.int .i64 13, .int .i64 a, .int .i64 b] w fun e w' => e = .returned (.int .i64 (bits .and .i32 (wrap32 a) (wrap32 b))) ∧ w' = w := by
  have ha := w32_bd a
  have hb := w32_bd b
  have ht := tmod32_bd (wrap32 b)
  have hbb := bits_bd .and (wrap32 a) (wrap32 b)
  go_enter Try.func5, Try.ntmps5
  go_wp2
  all_goals go_ret
  all_goals refine ⟨ret_int ?_, rfl⟩
  all_goals first | rfl | exact w64_32 _ | (rw [tm32, w64_32, w32_64]) | (rw [tm32]) | exact w64_div _ _ ha | exact bits_and _ _ ha hb | exact bits_or _ _ ha hb | exact bits_xor _ _ ha hb

theorem s13 (a b : Int) (w : World) :
    Calls Try.prog 4 #[.int .i64 13, .int .i64 a, .int .i64 b] w fun e w' => e = .returned (.int .i64 (bits .and .i32 (wrap32 a) (wrap32 b))) ∧ w' = w := by
  have ha := w32_bd a
  have hb := w32_bd b
  have ht := tmod32_bd (wrap32 b)
  have hbb := bits_bd .and (wrap32 a) (wrap32 b)
  go_enter Try.func4, Try.ntmps4
  go_wp2
  all_goals go_ret
  all_goals refine ⟨ret_int ?_, rfl⟩
  all_goals first | rfl | exact w64_32 _ | (rw [tm32, w64_32, w32_64]) | (rw [tm32]) | exact w64_div _ _ ha | exact bits_and _ _ ha hb | exact bits_or _ _ ha hb | exact bits_xor _ _ ha hb

theorem i14 (a b : Int) (w : World) :
    Calls Try.prog 5 #[.int .i64 14, .int .i64 a, .int .i64 b] w fun e w' => e = .returned (.int .i64 (bits .xor .i32 (wrap32 a) (wrap32 b))) ∧ w' = w := by
  have ha := w32_bd a
  have hb := w32_bd b
  have ht := tmod32_bd (wrap32 b)
  have hbb := bits_bd .xor (wrap32 a) (wrap32 b)
  go_enter Try.func5, Try.ntmps5
  go_wp2
  all_goals go_ret
  all_goals refine ⟨ret_int ?_, rfl⟩
  all_goals first | rfl | exact w64_32 _ | (rw [tm32, w64_32, w32_64]) | (rw [tm32]) | exact w64_div _ _ ha | exact bits_and _ _ ha hb | exact bits_or _ _ ha hb | exact bits_xor _ _ ha hb

theorem s14 (a b : Int) (w : World) :
    Calls Try.prog 4 #[.int .i64 14, .int .i64 a, .int .i64 b] w fun e w' => e = .returned (.int .i64 (bits .xor .i32 (wrap32 a) (wrap32 b))) ∧ w' = w := by
  have ha := w32_bd a
  have hb := w32_bd b
  have ht := tmod32_bd (wrap32 b)
  have hbb := bits_bd .xor (wrap32 a) (wrap32 b)
  go_enter Try.func4, Try.ntmps4
  go_wp2
  all_goals go_ret
  all_goals refine ⟨ret_int ?_, rfl⟩
  all_goals first | rfl | exact w64_32 _ | (rw [tm32, w64_32, w32_64]) | (rw [tm32]) | exact w64_div _ _ ha | exact bits_and _ _ ha hb | exact bits_or _ _ ha hb | exact bits_xor _ _ ha hb

theorem i15 (a b : Int) (w : World) :
    Calls Try.prog 5 #[.int .i64 15, .int .i64 a, .int .i64 b] w fun e w' => e = .returned (.int .i64 (bits .or .i32 (wrap32 a) (wrap32 b))) ∧ w' = w := by
  have ha := w32_bd a
  have hb := w32_bd b
  have ht := tmod32_bd (wrap32 b)
  have hbb := bits_bd .or (wrap32 a) (wrap32 b)
  go_enter Try.func5, Try.ntmps5
  go_wp2
  all_goals go_ret
  all_goals refine ⟨ret_int ?_, rfl⟩
  all_goals first | rfl | exact w64_32 _ | (rw [tm32, w64_32, w32_64]) | (rw [tm32]) | exact w64_div _ _ ha | exact bits_and _ _ ha hb | exact bits_or _ _ ha hb | exact bits_xor _ _ ha hb

theorem s15 (a b : Int) (w : World) :
    Calls Try.prog 4 #[.int .i64 15, .int .i64 a, .int .i64 b] w fun e w' => e = .returned (.int .i64 (bits .or .i32 (wrap32 a) (wrap32 b))) ∧ w' = w := by
  have ha := w32_bd a
  have hb := w32_bd b
  have ht := tmod32_bd (wrap32 b)
  have hbb := bits_bd .or (wrap32 a) (wrap32 b)
  go_enter Try.func4, Try.ntmps4
  go_wp2
  all_goals go_ret
  all_goals refine ⟨ret_int ?_, rfl⟩
  all_goals first | rfl | exact w64_32 _ | (rw [tm32, w64_32, w32_64]) | (rw [tm32]) | exact w64_div _ _ ha | exact bits_and _ _ ha hb | exact bits_or _ _ ha hb | exact bits_xor _ _ ha hb

theorem iN (op a b : Int) (w : World) (h : op < 0 ∨ 15 < op) :
    Calls Try.prog 5 #[.int .i64 op, .int .i64 a, .int .i64 b] w fun e w' => e = .returned (.int .i64 0) ∧ w' = w := by
  have ha := w32_bd a
  have hb := w32_bd b
  have ht := tmod32_bd (wrap32 b)
  rcases h with h | h
  all_goals
    go_enter Try.func5, Try.ntmps5
    go_wp2
    go_ret
    exact ⟨rfl, rfl⟩
theorem sN (op a b : Int) (w : World) (h : op < 0 ∨ 15 < op) :
    Calls Try.prog 4 #[.int .i64 op, .int .i64 a, .int .i64 b] w fun e w' => e = .returned (.int .i64 0) ∧ w' = w := by
  have ha := w32_bd a
  have hb := w32_bd b
  have ht := tmod32_bd (wrap32 b)
  rcases h with h | h
  all_goals
    go_enter Try.func4, Try.ntmps4
    go_wp2
    go_ret
    exact ⟨rfl, rfl⟩
end Go.Proofs.Ytgcabefonhechaa
