import Derived.Test.YtabjcodpagjbjaaGreatK06
import Derived.Test.YtabjcodpagjbjaaGreatK24
namespace Go.Proofs.YtabjcodpagjbjaaGreat
open Go.RowKit
set_option linter.unusedVariables false
set_option maxHeartbeats 1000000 in
theorem codes19 (w : World) : Calls Tryz.prog 54 #[.int .i64 19] w fun e w' => CodesAt w w' 19 e := by
  go_enter Tryz.func54, Tryz.ntmps54
  go_wp2
  go_region
  all_goals go_wp2
  all_goals go_ret
  all_goals refine ⟨_, rfl, ?_, ?_, ?_, ?_, ?_⟩
  all_goals first
    | (go_simp; done)
    | (simp; done)
    | (go_simp; rfl)
    | (repeat (first | exact Below.refl _ _ | refine Below.alloc ?_ (by simp; try omega) _ | refine Below.drew ?_))
set_option maxHeartbeats 1000000 in
theorem codes20 (w : World) : Calls Tryz.prog 54 #[.int .i64 20] w fun e w' => CodesAt w w' 20 e := by
  go_enter Tryz.func54, Tryz.ntmps54
  go_wp2
  go_region
  all_goals go_wp2
  all_goals go_ret
  all_goals refine ⟨_, rfl, ?_, ?_, ?_, ?_, ?_⟩
  all_goals first
    | (go_simp; done)
    | (simp; done)
    | (go_simp; rfl)
    | (repeat (first | exact Below.refl _ _ | refine Below.alloc ?_ (by simp; try omega) _ | refine Below.drew ?_))
set_option maxHeartbeats 1000000 in
theorem codes21 (w : World) : Calls Tryz.prog 54 #[.int .i64 21] w fun e w' => CodesAt w w' 21 e := by
  go_enter Tryz.func54, Tryz.ntmps54
  go_wp2
  go_region
  all_goals go_wp2
  all_goals go_ret
  all_goals refine ⟨_, rfl, ?_, ?_, ?_, ?_, ?_⟩
  all_goals first
    | (go_simp; done)
    | (simp; done)
    | (go_simp; rfl)
    | (repeat (first | exact Below.refl _ _ | refine Below.alloc ?_ (by simp; try omega) _ | refine Below.drew ?_))
set_option maxHeartbeats 1000000 in
theorem codes22 (w : World) : Calls Tryz.prog 54 #[.int .i64 22] w fun e w' => CodesAt w w' 22 e := by
  go_enter Tryz.func54, Tryz.ntmps54
  go_wp2
  go_region
  all_goals go_wp2
  all_goals go_ret
  all_goals refine ⟨_, rfl, ?_, ?_, ?_, ?_, ?_⟩
  all_goals first
    | (go_simp; done)
    | (simp; done)
    | (go_simp; rfl)
    | (repeat (first | exact Below.refl _ _ | refine Below.alloc ?_ (by simp; try omega) _ | refine Below.drew ?_))
set_option maxHeartbeats 1000000 in
theorem codes23 (w : World) : Calls Tryz.prog 54 #[.int .i64 23] w fun e w' => CodesAt w w' 23 e := by
  go_enter Tryz.func54, Tryz.ntmps54
  go_wp2
  go_region
  all_goals go_wp2
  all_goals go_ret
  all_goals refine ⟨_, rfl, ?_, ?_, ?_, ?_, ?_⟩
  all_goals first
    | (go_simp; done)
    | (simp; done)
    | (go_simp; rfl)
    | (repeat (first | exact Below.refl _ _ | refine Below.alloc ?_ (by simp; try omega) _ | refine Below.drew ?_))
set_option maxHeartbeats 1000000 in
theorem codes24 (w : World) : Calls Tryz.prog 54 #[.int .i64 24] w fun e w' => CodesAt w w' 24 e := by
  go_enter Tryz.func54, Tryz.ntmps54
  go_wp2
  go_region
  all_goals go_wp2
  all_goals go_ret
  all_goals refine ⟨_, rfl, ?_, ?_, ?_, ?_, ?_⟩
  all_goals first
    | (go_simp; done)
    | (simp; done)
    | (go_simp; rfl)
    | (repeat (first | exact Below.refl _ _ | refine Below.alloc ?_ (by simp; try omega) _ | refine Below.drew ?_))
set_option maxHeartbeats 1000000 in
theorem codes25 (w : World) : Calls Tryz.prog 54 #[.int .i64 25] w fun e w' => CodesAt w w' 25 e := by
  go_enter Tryz.func54, Tryz.ntmps54
  go_wp2
  go_region
  all_goals go_wp2
  all_goals go_ret
  all_goals refine ⟨_, rfl, ?_, ?_, ?_, ?_, ?_⟩
  all_goals first
    | (go_simp; done)
    | (simp; done)
    | (go_simp; rfl)
    | (repeat (first | exact Below.refl _ _ | refine Below.alloc ?_ (by simp; try omega) _ | refine Below.drew ?_))
set_option maxHeartbeats 1000000 in
theorem codes26 (w : World) : Calls Tryz.prog 54 #[.int .i64 26] w fun e w' => CodesAt w w' 26 e := by
  go_enter Tryz.func54, Tryz.ntmps54
  go_wp2
  go_region
  all_goals go_wp2
  all_goals go_ret
  all_goals refine ⟨_, rfl, ?_, ?_, ?_, ?_, ?_⟩
  all_goals first
    | (go_simp; done)
    | (simp; done)
    | (go_simp; rfl)
    | (repeat (first | exact Below.refl _ _ | refine Below.alloc ?_ (by simp; try omega) _ | refine Below.drew ?_))
set_option maxHeartbeats 1000000 in
theorem codes27 (w : World) : Calls Tryz.prog 54 #[.int .i64 27] w fun e w' => CodesAt w w' 27 e := by
  go_enter Tryz.func54, Tryz.ntmps54
  go_wp2
  go_region
  all_goals go_wp2
  all_goals go_ret
  all_goals refine ⟨_, rfl, ?_, ?_, ?_, ?_, ?_⟩
  all_goals first
    | (go_simp; done)
    | (simp; done)
    | (go_simp; rfl)
    | (repeat (first | exact Below.refl _ _ | refine Below.alloc ?_ (by simp; try omega) _ | refine Below.drew ?_))
set_option maxHeartbeats 1000000 in
theorem codes28 (w : World) : Calls Tryz.prog 54 #[.int .i64 28] w fun e w' => CodesAt w w' 28 e := by
  go_enter Tryz.func54, Tryz.ntmps54
  go_wp2
  go_region
  all_goals go_wp2
  all_goals go_ret
  all_goals refine ⟨_, rfl, ?_, ?_, ?_, ?_, ?_⟩
  all_goals first
    | (go_simp; done)
    | (simp; done)
    | (go_simp; rfl)
    | (repeat (first | exact Below.refl _ _ | refine Below.alloc ?_ (by simp; try omega) _ | refine Below.drew ?_))
set_option maxHeartbeats 1000000 in
theorem codes29 (w : World) : Calls Tryz.prog 54 #[.int .i64 29] w fun e w' => CodesAt w w' 29 e := by
  go_enter Tryz.func54, Tryz.ntmps54
  go_wp2
  go_region
  all_goals go_wp2
  all_goals go_ret
  all_goals refine ⟨_, rfl, ?_, ?_, ?_, ?_, ?_⟩
  all_goals first
    | (go_simp; done)
    | (simp; done)
    | (go_simp; rfl)
    | (repeat (first | exact Below.refl _ _ | refine Below.alloc ?_ (by simp; try omega) _ | refine Below.drew ?_))
set_option maxHeartbeats 1000000 in
theorem codes30 (w : World) : Calls Tryz.prog 54 #[.int .i64 30] w fun e w' => CodesAt w w' 30 e := by
  go_enter Tryz.func54, Tryz.ntmps54
  go_wp2
  go_region
  all_goals go_wp2
  all_goals go_ret
  all_goals refine ⟨_, rfl, ?_, ?_, ?_, ?_, ?_⟩
  all_goals first
    | (go_simp; done)
    | (simp; done)
    | (go_simp; rfl)
    | (repeat (first | exact Below.refl _ _ | refine Below.alloc ?_ (by simp; try omega) _ | refine Below.drew ?_))
set_option maxHeartbeats 1000000 in
theorem codes31 (w : World) : Calls Tryz.prog 54 #[.int .i64 31] w fun e w' => CodesAt w w' 31 e := by
  go_enter Tryz.func54, Tryz.ntmps54
  go_wp2
  all_goals go_ret
  all_goals refine ⟨_, rfl, ?_, ?_, ?_, ?_, ?_⟩
  all_goals first
    | (go_simp; done)
    | (simp; done)
    | (go_simp; rfl)
    | (repeat (first | exact Below.refl _ _ | refine Below.alloc ?_ (by simp; try omega) _ | refine Below.drew ?_))
set_option maxHeartbeats 1000000 in
theorem codes32 (w : World) : Calls Tryz.prog 54 #[.int .i64 32] w fun e w' => CodesAt w w' 32 e := by
  go_enter Tryz.func54, Tryz.ntmps54
  go_wp2
  all_goals go_ret
  all_goals refine ⟨_, rfl, ?_, ?_, ?_, ?_, ?_⟩
  all_goals first
    | (go_simp; done)
    | (simp; done)
    | (go_simp; rfl)
    | (repeat (first | exact Below.refl _ _ | refine Below.alloc ?_ (by simp; try omega) _ | refine Below.drew ?_))
set_option maxHeartbeats 1000000 in
theorem codes33 (w : World) : Calls Tryz.prog 54 #[.int .i64 33] w fun e w' => CodesAt w w' 33 e := by
  go_enter Tryz.func54, Tryz.ntmps54
  go_wp2
  all_goals go_ret
  all_goals refine ⟨_, rfl, ?_, ?_, ?_, ?_, ?_⟩
  all_goals first
    | (go_simp; done)
    | (simp; done)
    | (go_simp; rfl)
    | (repeat (first | exact Below.refl _ _ | refine Below.alloc ?_ (by simp; try omega) _ | refine Below.drew ?_))
set_option maxHeartbeats 1000000 in
theorem codes34 (w : World) : Calls Tryz.prog 54 #[.int .i64 34] w fun e w' => CodesAt w w' 34 e := by
  go_enter Tryz.func54, Tryz.ntmps54
  go_wp2
  all_goals go_ret
  all_goals refine ⟨_, rfl, ?_, ?_, ?_, ?_, ?_⟩
  all_goals first
    | (go_simp; done)
    | (simp; done)
    | (go_simp; rfl)
    | (repeat (first | exact Below.refl _ _ | refine Below.alloc ?_ (by simp; try omega) _ | refine Below.drew ?_))
end Go.Proofs.YtabjcodpagjbjaaGreat
