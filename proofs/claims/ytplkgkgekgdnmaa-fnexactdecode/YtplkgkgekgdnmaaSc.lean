import Derived.Test.YtplkgkgekgdnmaaSi
import Derived.Deep.RegionHeld3
namespace Go.Proofs.Ytplkgkgekgdnmaa
open Go.RowKit
set_option linter.unusedVariables false
def ocL : List Int := [0, 55, 111, 103, 99, 99, 99, 99, 99, 99, 3, 35, 19, 19, 19, 19, 19, 19, 19, 19, 19, 51, 51, 51, 51, 51, 51, 51, 51, 51, 51, 51, 51, 51, 115]
def f3L : List Int := [0, 0, 0, 0, 0, 1, 4, 5, 6, 7, 2, 2, 0, 2, 3, 4, 6, 7, 1, 5, 5, 0, 0, 1, 2, 3, 4, 5, 5, 6, 7, 0, 4, 6, 0]
def f7L : List Int := [0, 0, 0, 0, 0, 0, 0, 0, 0, 0, 0, 0, 0, 0, 0, 0, 0, 0, 0, 0, 32, 0, 32, 0, 0, 0, 0, 0, 32, 0, 0, 1, 1, 1, 0]
def oc (op : Int) : Int := ocL.getD op.toNat 0
def f3 (op : Int) : Int := f3L.getD op.toNat 0
def f7 (op : Int) : Int := f7L.getD op.toNat 0
theorem getD_bd (l : List Int) (m : Int) (hm : 0 ≤ m) (h : ∀ n, n < l.length → 0 ≤ l.getD n 0 ∧ l.getD n 0 ≤ m) (n : Nat) : 0 ≤ l.getD n 0 ∧ l.getD n 0 ≤ m := by
  by_cases hn : n < l.length
  · exact h n hn
  · have e : l.getD n 0 = 0 := by simp [List.getD, List.getElem?_eq_none (show l.length ≤ n by omega)]
    rw [e]; omega
theorem oc_bd (op : Int) : 0 ≤ oc op ∧ oc op ≤ 127 := getD_bd ocL 127 (by decide) (by decide) _
theorem f3_bd (op : Int) : 0 ≤ f3 op ∧ f3 op ≤ 7 := getD_bd f3L 7 (by decide) (by decide) _
theorem f7_bd (op : Int) : 0 ≤ f7 op ∧ f7 op ≤ 127 := getD_bd f7L 127 (by decide) (by decide) _
theorem oc_pos (op : Int) (h : 1 ≤ op ∧ op ≤ 34) : 0 < oc op := by
  have : ∀ n : Nat, n < 35 → 0 < n → 0 < ocL.getD n 0 := by decide
  exact this op.toNat (by omega) (by omega)
theorem shapeU (op : Int) (w : World) (h : op = 1) :
    Calls Try.prog 34 #[.int .i64 op] w fun e w' => e = .returned (.int .u8 85) ∧ w' = w := by
  go_enter Try.func34, Try.ntmps34
  go_wp2
  go_ret
  exact ⟨rfl, rfl⟩
theorem boundsU (op : Int) (w : World) (h : op = 1) :
    Calls Try.prog 35 #[.int .i64 op] w fun e w' => e = .returned (.tuple #[.int .i64 (0), .int .i64 (1048575)]) ∧ w' = w := by
  have HH : Hid _ := h
  clear h
  go_enter Try.func35, Try.ntmps35
  go_wp2_with (go_at_call 34; refine (shapeU _ _ HH.out).mono ?_; rintro e w' ⟨rfl, rfl⟩)
  go_ret2
  exact ⟨rfl, rfl⟩
theorem shapeJ (op : Int) (w : World) (h : op = 2) :
    Calls Try.prog 34 #[.int .i64 op] w fun e w' => e = .returned (.int .u8 74) ∧ w' = w := by
  go_enter Try.func34, Try.ntmps34
  go_wp2
  go_ret
  exact ⟨rfl, rfl⟩
theorem boundsJ (op : Int) (w : World) (h : op = 2) :
    Calls Try.prog 35 #[.int .i64 op] w fun e w' => e = .returned (.tuple #[.int .i64 (-1048576), .int .i64 (1048574)]) ∧ w' = w := by
  have HH : Hid _ := h
  clear h
  go_enter Try.func35, Try.ntmps35
  go_wp2_with (go_at_call 34; refine (shapeJ _ _ HH.out).mono ?_; rintro e w' ⟨rfl, rfl⟩)
  go_ret2
  exact ⟨rfl, rfl⟩
theorem shapeB (op : Int) (w : World) (h : 4 ≤ op ∧ op ≤ 9) :
    Calls Try.prog 34 #[.int .i64 op] w fun e w' => e = .returned (.int .u8 66) ∧ w' = w := by
  go_enter Try.func34, Try.ntmps34
  go_wp2
  go_ret
  exact ⟨rfl, rfl⟩
theorem boundsB (op : Int) (w : World) (h : 4 ≤ op ∧ op ≤ 9) :
    Calls Try.prog 35 #[.int .i64 op] w fun e w' => e = .returned (.tuple #[.int .i64 (-4096), .int .i64 (4094)]) ∧ w' = w := by
  have HH : Hid _ := h
  clear h
  go_enter Try.func35, Try.ntmps35
  go_wp2_with (go_at_call 34; refine (shapeB _ _ HH.out).mono ?_; rintro e w' ⟨rfl, rfl⟩)
  go_ret2
  exact ⟨rfl, rfl⟩
theorem shapeS (op : Int) (w : World) (h : op = 11) :
    Calls Try.prog 34 #[.int .i64 op] w fun e w' => e = .returned (.int .u8 83) ∧ w' = w := by
  go_enter Try.func34, Try.ntmps34
  go_wp2
  go_ret
  exact ⟨rfl, rfl⟩
theorem boundsS (op : Int) (w : World) (h : op = 11) :
    Calls Try.prog 35 #[.int .i64 op] w fun e w' => e = .returned (.tuple #[.int .i64 (-2048), .int .i64 (2047)]) ∧ w' = w := by
  have HH : Hid _ := h
  clear h
  go_enter Try.func35, Try.ntmps35
  go_wp2_with (go_at_call 34; refine (shapeS _ _ HH.out).mono ?_; rintro e w' ⟨rfl, rfl⟩)
  go_ret2
  exact ⟨rfl, rfl⟩
theorem shapeH (op : Int) (w : World) (h : 18 ≤ op ∧ op ≤ 20) :
    Calls Try.prog 34 #[.int .i64 op] w fun e w' => e = .returned (.int .u8 72) ∧ w' = w := by
  go_enter Try.func34, Try.ntmps34
  go_wp2
  go_ret
  exact ⟨rfl, rfl⟩
theorem boundsH (op : Int) (w : World) (h : 18 ≤ op ∧ op ≤ 20) :
    Calls Try.prog 35 #[.int .i64 op] w fun e w' => e = .returned (.tuple #[.int .i64 (0), .int .i64 (31)]) ∧ w' = w := by
  have HH : Hid _ := h
  clear h
  go_enter Try.func35, Try.ntmps35
  go_wp2_with (go_at_call 34; refine (shapeH _ _ HH.out).mono ?_; rintro e w' ⟨rfl, rfl⟩)
  go_ret2
  exact ⟨rfl, rfl⟩
theorem shapeR (op : Int) (w : World) (h : 21 ≤ op ∧ op ≤ 33) :
    Calls Try.prog 34 #[.int .i64 op] w fun e w' => e = .returned (.int .u8 82) ∧ w' = w := by
  go_enter Try.func34, Try.ntmps34
  go_wp2
  go_ret
  exact ⟨rfl, rfl⟩
theorem boundsR (op : Int) (w : World) (h : 21 ≤ op ∧ op ≤ 33) :
    Calls Try.prog 35 #[.int .i64 op] w fun e w' => e = .returned (.tuple #[.int .i64 (0), .int .i64 (0)]) ∧ w' = w := by
  have HH : Hid _ := h
  clear h
  go_enter Try.func35, Try.ntmps35
  go_wp2_with (go_at_call 34; refine (shapeR _ _ HH.out).mono ?_; rintro e w' ⟨rfl, rfl⟩)
  go_ret2
  exact ⟨rfl, rfl⟩
theorem shapeE (op : Int) (w : World) (h : op = 34) :
    Calls Try.prog 34 #[.int .i64 op] w fun e w' => e = .returned (.int .u8 69) ∧ w' = w := by
  go_enter Try.func34, Try.ntmps34
  go_wp2
  go_ret
  exact ⟨rfl, rfl⟩
theorem boundsE (op : Int) (w : World) (h : op = 34) :
    Calls Try.prog 35 #[.int .i64 op] w fun e w' => e = .returned (.tuple #[.int .i64 (0), .int .i64 (0)]) ∧ w' = w := by
  have HH : Hid _ := h
  clear h
  go_enter Try.func35, Try.ntmps35
  go_wp2_with (go_at_call 34; refine (shapeE _ _ HH.out).mono ?_; rintro e w' ⟨rfl, rfl⟩)
  go_ret2
  exact ⟨rfl, rfl⟩
theorem shapeI (op : Int) (w : World) (h : op = 3 ∨ op = 10 ∨ (12 ≤ op ∧ op ≤ 17)) :
    Calls Try.prog 34 #[.int .i64 op] w fun e w' => e = .returned (.int .u8 73) ∧ w' = w := by
  rcases h with h | h | h
  all_goals
    go_enter Try.func34, Try.ntmps34
    go_wp2
    go_ret
    exact ⟨rfl, rfl⟩
theorem boundsI (op : Int) (w : World) (h : op = 3 ∨ op = 10 ∨ (12 ≤ op ∧ op ≤ 17)) :
    Calls Try.prog 35 #[.int .i64 op] w fun e w' => e = .returned (.tuple #[.int .i64 (-2048), .int .i64 (2047)]) ∧ w' = w := by
  have HH : Hid _ := h
  clear h
  go_enter Try.func35, Try.ntmps35
  go_wp2_with (go_at_call 34; refine (shapeI _ _ HH.out).mono ?_; rintro e w' ⟨rfl, rfl⟩)
  go_ret2
  exact ⟨rfl, rfl⟩
def btL : List (Int × Int × Int) := [(0, 11, 20), (0, 4, 7), (5, 11, 25), (11, 11, 7), (1, 4, 8), (5, 10, 25), (12, 12, 31), (12, 19, 12), (11, 11, 20), (1, 10, 21), (20, 20, 31)]
def ptL : List (Int × Int × Int) := [(7, 11, 0), (15, 19, 0), (20, 24, 0), (20, 31, 0), (25, 31, 5), (7, 7, 11), (8, 11, 1), (25, 30, 5), (31, 31, 12), (12, 31, 0), (12, 19, 12), (20, 20, 11), (21, 30, 1), (31, 31, 20)]
set_option maxHeartbeats 1000000 in
theorem bits_any (x lo hi a : Int) (w : World) (h : (lo, hi, a) ∈ btL) :
    Calls Try.prog 37 #[.int .i64 x, .int .i64 lo, .int .i64 hi, .int .i64 a] w fun e w' => e = .returned (.int .u32 (mvi (x % 4294967296) lo (hi - lo + 1) a)) ∧ w' = w := by
  simp only [btL, List.mem_cons, Prod.mk.injEq, List.not_mem_nil, or_false] at h
  rcases h with ⟨rfl, rfl, rfl⟩ | ⟨rfl, rfl, rfl⟩ | ⟨rfl, rfl, rfl⟩ | ⟨rfl, rfl, rfl⟩ | ⟨rfl, rfl, rfl⟩ | ⟨rfl, rfl, rfl⟩ | ⟨rfl, rfl, rfl⟩ | ⟨rfl, rfl, rfl⟩ | ⟨rfl, rfl, rfl⟩ | ⟨rfl, rfl, rfl⟩ | ⟨rfl, rfl, rfl⟩
  all_goals
    go_enter Try.func37, Try.ntmps37
    go_wp2
    go_ret
    exact ⟨ret_int (by unfold mvi; simp only [Int.reduceSub, Int.reduceAdd, Int.reduceToNat, Int.reducePow]; omega), rfl⟩
set_option maxHeartbeats 1000000 in
theorem part_any (x lo hi a : Int) (w : World) (h0 : 0 ≤ x ∧ x ≤ 4294967295) (h : (lo, hi, a) ∈ ptL) :
    Calls Try.prog 57 #[.int .u32 x, .int .i64 lo, .int .i64 hi, .int .i64 a] w fun e w' => e = .returned (.int .i64 (mvi x lo (hi - lo + 1) a)) ∧ w' = w := by
  simp only [ptL, List.mem_cons, Prod.mk.injEq, List.not_mem_nil, or_false] at h
  rcases h with ⟨rfl, rfl, rfl⟩ | ⟨rfl, rfl, rfl⟩ | ⟨rfl, rfl, rfl⟩ | ⟨rfl, rfl, rfl⟩ | ⟨rfl, rfl, rfl⟩ | ⟨rfl, rfl, rfl⟩ | ⟨rfl, rfl, rfl⟩ | ⟨rfl, rfl, rfl⟩ | ⟨rfl, rfl, rfl⟩ | ⟨rfl, rfl, rfl⟩ | ⟨rfl, rfl, rfl⟩ | ⟨rfl, rfl, rfl⟩ | ⟨rfl, rfl, rfl⟩ | ⟨rfl, rfl, rfl⟩
  all_goals
    go_enter Try.func57, Try.ntmps57
    go_wp2
    go_ret
    exact ⟨ret_int (by unfold mvi; simp only [Int.reduceSub, Int.reduceAdd, Int.reduceToNat, Int.reducePow]; omega), rfl⟩
theorem signed_any (x b : Int) (w : World) (h0 : 0 ≤ x ∧ x ≤ 4294967295) (h : b = 12 ∨ b = 13 ∨ b = 21) :
    Calls Try.prog 58 #[.int .i64 x, .int .i64 b] w fun e w' => e = .returned (.int .i64 (sg x (2 ^ (b - 1).toNat) (2 ^ b.toNat))) ∧ w' = w := by
  rcases h with rfl | rfl | rfl
  all_goals
    go_enter Try.func58, Try.ntmps58
    go_wp2
    all_goals go_ret
    all_goals exact ⟨ret_int (by unfold sg; simp only [Int.reduceSub, Int.reduceToNat, Int.reducePow]; split <;> omega), rfl⟩
end Go.Proofs.Ytplkgkgekgdnmaa
