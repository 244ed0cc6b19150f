import Derived.Test.YtdkpinbkmjoicaaMv
import Derived.Deep.RegionHeld3
namespace Go.Proofs.Ytdkpinbkmjoicaa
open Go.RowKit
set_option linter.unusedVariables false


theorem fb0_any (a b : Int) (w : World) (h0 : 0 ≤ a ∧ a ≤ 127) (h2 : 0 ≤ b ∧ b ≤ 7) :
    Calls Try.prog 106 #[.int .u32 a, .int .u32 b, .int .u32 0] w fun e w' => e = .returned (.int .u32 (a + b * 4096)) ∧ w' = w :=
  (fb_any a b 0 w h0 h2 (by omega)).mono fun e w' ⟨he, hw⟩ => ⟨he.trans (ret_int (by omega)), hw⟩
theorem putRd_any (op rd s1 s2 im : Int) (w : World) : Calls Try.prog 99 #[.agg #[.int .i64 op, .int .i64 rd, .int .i64 s1, .int .i64 s2, .int .i64 im]] w fun e w' => e = .returned (.int .u32 (mvi (rd % 4294967296) 0 5 7)) ∧ w' = w.alloc (.cells #[.int .i64 op, .int .i64 rd, .int .i64 s1, .int .i64 s2, .int .i64 im] 24) := by
  go_enter Try.func99, Try.ntmps99
  go_wp2_with (go_at_call 98; refine (move_any _ _ _ _ _ (by omega) (by omega) (by omega) (by omega)).mono ?_; rintro e w' ⟨rfl, rfl⟩)
  go_ret
  exact ⟨rfl, rfl⟩
theorem putRs1_any (op rd s1 s2 im : Int) (w : World) : Calls Try.prog 107 #[.agg #[.int .i64 op, .int .i64 rd, .int .i64 s1, .int .i64 s2, .int .i64 im]] w fun e w' => e = .returned (.int .u32 (mvi (s1 % 4294967296) 0 5 15)) ∧ w' = w.alloc (.cells #[.int .i64 op, .int .i64 rd, .int .i64 s1, .int .i64 s2, .int .i64 im] 24) := by
  go_enter Try.func107, Try.ntmps107
  go_wp2_with (go_at_call 98; refine (move_any _ _ _ _ _ (by omega) (by omega) (by omega) (by omega)).mono ?_; rintro e w' ⟨rfl, rfl⟩)
  go_ret
  exact ⟨rfl, rfl⟩
theorem putRs2_any (op rd s1 s2 im : Int) (w : World) : Calls Try.prog 111 #[.agg #[.int .i64 op, .int .i64 rd, .int .i64 s1, .int .i64 s2, .int .i64 im]] w fun e w' => e = .returned (.int .u32 (mvi (s2 % 4294967296) 0 5 20)) ∧ w' = w.alloc (.cells #[.int .i64 op, .int .i64 rd, .int .i64 s1, .int .i64 s2, .int .i64 im] 24) := by
  go_enter Try.func111, Try.ntmps111
  go_wp2_with (go_at_call 98; refine (move_any _ _ _ _ _ (by omega) (by omega) (by omega) (by omega)).mono ?_; rintro e w' ⟨rfl, rfl⟩)
  go_ret
  exact ⟨rfl, rfl⟩
theorem takeRd_any (v : Int) (w : World) (h : 0 ≤ v ∧ v ≤ 4294967295) : Calls Try.prog 97 #[.int .u32 v] w fun e w' => e = .returned (.int .i64 (mvi v 7 5 0)) ∧ w' = w := by
  have hb := mvi_bd v 7 5 0
  go_enter Try.func97, Try.ntmps97
  go_wp2_with (go_at_call 98; refine (move_any _ _ _ _ _ (by omega) (by omega) (by omega) (by omega)).mono ?_; rintro e w' ⟨rfl, rfl⟩)
  go_ret
  exact ⟨rfl, rfl⟩
theorem takeRs1_any (v : Int) (w : World) (h : 0 ≤ v ∧ v ≤ 4294967295) : Calls Try.prog 105 #[.int .u32 v] w fun e w' => e = .returned (.int .i64 (mvi v 15 5 0)) ∧ w' = w := by
  have hb := mvi_bd v 15 5 0
  go_enter Try.func105, Try.ntmps105
  go_wp2_with (go_at_call 98; refine (move_any _ _ _ _ _ (by omega) (by omega) (by omega) (by omega)).mono ?_; rintro e w' ⟨rfl, rfl⟩)
  go_ret
  exact ⟨rfl, rfl⟩
theorem takeRs2_any (v : Int) (w : World) (h : 0 ≤ v ∧ v ≤ 4294967295) : Calls Try.prog 110 #[.int .u32 v] w fun e w' => e = .returned (.int .i64 (mvi v 20 5 0)) ∧ w' = w := by
  have hb := mvi_bd v 20 5 0
  go_enter Try.func110, Try.ntmps110
  go_wp2_with (go_at_call 98; refine (move_any _ _ _ _ _ (by omega) (by omega) (by omega) (by omega)).mono ?_; rintro e w' ⟨rfl, rfl⟩)
  go_ret
  exact ⟨rfl, rfl⟩

end Go.Proofs.Ytdkpinbkmjoicaa
