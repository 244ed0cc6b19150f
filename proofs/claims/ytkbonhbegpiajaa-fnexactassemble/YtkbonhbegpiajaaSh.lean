import Derived.Test.YtkbonhbegpiajaaMv
import Derived.Deep.RegionHeld3
namespace Go.Proofs.Ytkbonhbegpiajaa
open Go.RowKit
set_option linter.unusedVariables false


theorem fb0_any (a b : Int) (w : World) (h0 : 0 ≤ a ∧ a ≤ 127) (h2 : 0 ≤ b ∧ b ≤ 7) :
    Calls Try.prog 72 #[.int .u32 a, .int .u32 b, .int .u32 0] w fun e w' => e = .returned (.int .u32 (a + b * 4096)) ∧ w' = w :=
  (fb_any a b 0 w h0 h2 (by omega)).mono fun e w' ⟨he, hw⟩ => ⟨he.trans (ret_int (by omega)), hw⟩
theorem putRd_any (op rd s1 s2 im : Int) (w : World) : Calls Try.prog 65 #[.agg #[.int .i64 op, .int .i64 rd, .int .i64 s1, .int .i64 s2, .int .i64 im]] w fun e w' => e = .returned (.int .u32 (mvi (rd % 4294967296) 0 5 7)) ∧ w' = w.alloc (.cells #[.int .i64 op, .int .i64 rd, .int .i64 s1, .int .i64 s2, .int .i64 im] 36) := by
  go_enter Try.func65, Try.ntmps65
  go_wp2_with (go_at_call 64; refine (move_any _ _ _ _ _ (by omega) (by omega) (by omega) (by omega)).mono ?_; rintro e w' ⟨rfl, rfl⟩)
  go_ret
  exact ⟨rfl, rfl⟩
theorem putRs1_any (op rd s1 s2 im : Int) (w : World) : Calls Try.prog 73 #[.agg #[.int .i64 op, .int .i64 rd, .int .i64 s1, .int .i64 s2, .int .i64 im]] w fun e w' => e = .returned (.int .u32 (mvi (s1 % 4294967296) 0 5 15)) ∧ w' = w.alloc (.cells #[.int .i64 op, .int .i64 rd, .int .i64 s1, .int .i64 s2, .int .i64 im] 36) := by
  go_enter Try.func73, Try.ntmps73
  go_wp2_with (go_at_call 64; refine (move_any _ _ _ _ _ (by omega) (by omega) (by omega) (by omega)).mono ?_; rintro e w' ⟨rfl, rfl⟩)
  go_ret
  exact ⟨rfl, rfl⟩
theorem putRs2_any (op rd s1 s2 im : Int) (w : World) : Calls Try.prog 77 #[.agg #[.int .i64 op, .int .i64 rd, .int .i64 s1, .int .i64 s2, .int .i64 im]] w fun e w' => e = .returned (.int .u32 (mvi (s2 % 4294967296) 0 5 20)) ∧ w' = w.alloc (.cells #[.int .i64 op, .int .i64 rd, .int .i64 s1, .int .i64 s2, .int .i64 im] 36) := by
  go_enter Try.func77, Try.ntmps77
  go_wp2_with (go_at_call 64; refine (move_any _ _ _ _ _ (by omega) (by omega) (by omega) (by omega)).mono ?_; rintro e w' ⟨rfl, rfl⟩)
  go_ret
  exact ⟨rfl, rfl⟩
theorem takeRd_any (v : Int) (w : World) (h : 0 ≤ v ∧ v ≤ 4294967295) : Calls Try.prog 63 #[.int .u32 v] w fun e w' => e = .returned (.int .i64 (mvi v 7 5 0)) ∧ w' = w := by
  have hb := mvi_bd v 7 5 0
  go_enter Try.func63, Try.ntmps63
  go_wp2_with (go_at_call 64; refine (move_any _ _ _ _ _ (by omega) (by omega) (by omega) (by omega)).mono ?_; rintro e w' ⟨rfl, rfl⟩)
  go_ret
  exact ⟨rfl, rfl⟩
theorem takeRs1_any (v : Int) (w : World) (h : 0 ≤ v ∧ v ≤ 4294967295) : Calls Try.prog 71 #[.int .u32 v] w fun e w' => e = .returned (.int .i64 (mvi v 15 5 0)) ∧ w' = w := by
  have hb := mvi_bd v 15 5 0
  go_enter Try.func71, Try.ntmps71
  go_wp2_with (go_at_call 64; refine (move_any _ _ _ _ _ (by omega) (by omega) (by omega) (by omega)).mono ?_; rintro e w' ⟨rfl, rfl⟩)
  go_ret
  exact ⟨rfl, rfl⟩
theorem takeRs2_any (v : Int) (w : World) (h : 0 ≤ v ∧ v ≤ 4294967295) : Calls Try.prog 76 #[.int .u32 v] w fun e w' => e = .returned (.int .i64 (mvi v 20 5 0)) ∧ w' = w := by
  have hb := mvi_bd v 20 5 0
  go_enter Try.func76, Try.ntmps76
  go_wp2_with (go_at_call 64; refine (move_any _ _ _ _ _ (by omega) (by omega) (by omega) (by omega)).mono ?_; rintro e w' ⟨rfl, rfl⟩)
  go_ret
  exact ⟨rfl, rfl⟩

end Go.Proofs.Ytkbonhbegpiajaa

