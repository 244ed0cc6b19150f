import Derived.Test.YtabjcodpagjbjaaGreatK06
import Derived.Test.YtabjcodpagjbjaaGreatK24
namespace Go.Proofs.YtabjcodpagjbjaaGreat
open Go.RowKit
set_option linter.unusedVariables false
set_option maxHeartbeats 1000000 in
theorem codes1 (w : World) : Calls Tryz.prog 54 #[.int .i64 1] w fun e w' => CodesAt w w' 1 e := by
  go_enter Tryz.func54, Tryz.ntmps54
  go_wp2
  all_goals go_ret
  all_goals refine ⟨_, rfl, ?_, ?_, ?_, ?_, ?_⟩
  all_goals first
    | (go_simp; done)
    | (simp; done)
    | (go_simp; rfl)
    | (repeat (first | exact Below.refl _ _ | refine Below.alloc ?_ (by simp; try omega) _ | refine Below.drew ?_))
set_option maxHeartbeats 1000000 in
theorem codes2 (w : World) : Calls Tryz.prog 54 #[.int .i64 2] w fun e w' => CodesAt w w' 2 e := by
  go_enter Tryz.func54, Tryz.ntmps54
  go_wp2
  all_goals go_ret
  all_goals refine ⟨_, rfl, ?_, ?_, ?_, ?_, ?_⟩
  all_goals first
    | (go_simp; done)
    | (simp; done)
    | (go_simp; rfl)
    | (repeat (first | exact Below.refl _ _ | refine Below.alloc ?_ (by simp; try omega) _ | refine Below.drew ?_))
set_option maxHeartbeats 1000000 in
theorem codes3 (w : World) : Calls Tryz.prog 54 #[.int .i64 3] w fun e w' => CodesAt w w' 3 e := by
  go_enter Tryz.func54, Tryz.ntmps54
  go_wp2
  all_goals go_ret
  all_goals refine ⟨_, rfl, ?_, ?_, ?_, ?_, ?_⟩
  all_goals first
    | (go_simp; done)
    | (simp; done)
    | (go_simp; rfl)
    | (repeat (first | exact Below.refl _ _ | refine Below.alloc ?_ (by simp; try omega) _ | refine Below.drew ?_))
set_option maxHeartbeats 1000000 in
theorem codes4 (w : World) : Calls Tryz.prog 54 #[.int .i64 4] w fun e w' => CodesAt w w' 4 e := by
  go_enter Tryz.func54, Tryz.ntmps54
  go_wp2
  all_goals go_ret
  all_goals refine ⟨_, rfl, ?_, ?_, ?_, ?_, ?_⟩
  all_goals first
    | (go_simp; done)
    | (simp; done)
    | (go_simp; rfl)
    | (repeat (first | exact Below.refl _ _ | refine Below.alloc ?_ (by simp; try omega) _ | refine Below.drew ?_))
set_option maxHeartbeats 1000000 in
theorem codes5 (w : World) : Calls Tryz.prog 54 #[.int .i64 5] w fun e w' => CodesAt w w' 5 e := by
  go_enter Tryz.func54, Tryz.ntmps54
  go_wp2
  all_goals go_ret
  all_goals refine ⟨_, rfl, ?_, ?_, ?_, ?_, ?_⟩
  all_goals first
    | (go_simp; done)
    | (simp; done)
    | (go_simp; rfl)
    | (repeat (first | exact Below.refl _ _ | refine Below.alloc ?_ (by simp; try omega) _ | refine Below.drew ?_))
set_option maxHeartbeats 1000000 in
theorem codes6 (w : World) : Calls Tryz.prog 54 #[.int .i64 6] w fun e w' => CodesAt w w' 6 e := by
  go_enter Tryz.func54, Tryz.ntmps54
  go_wp2
  all_goals go_ret
  all_goals refine ⟨_, rfl, ?_, ?_, ?_, ?_, ?_⟩
  all_goals first
    | (go_simp; done)
    | (simp; done)
    | (go_simp; rfl)
    | (repeat (first | exact Below.refl _ _ | refine Below.alloc ?_ (by simp; try omega) _ | refine Below.drew ?_))
set_option maxHeartbeats 1000000 in
theorem codes7 (w : World) : Calls Tryz.prog 54 #[.int .i64 7] w fun e w' => CodesAt w w' 7 e := by
  go_enter Tryz.func54, Tryz.ntmps54
  go_wp2
  all_goals go_ret
  all_goals refine ⟨_, rfl, ?_, ?_, ?_, ?_, ?_⟩
  all_goals first
    | (go_simp; done)
    | (simp; done)
    | (go_simp; rfl)
    | (repeat (first | exact Below.refl _ _ | refine Below.alloc ?_ (by simp; try omega) _ | refine Below.drew ?_))
set_option maxHeartbeats 1000000 in
theorem codes8 (w : World) : Calls Tryz.prog 54 #[.int .i64 8] w fun e w' => CodesAt w w' 8 e := by
  go_enter Tryz.func54, Tryz.ntmps54
  go_wp2
  all_goals go_ret
  all_goals refine ⟨_, rfl, ?_, ?_, ?_, ?_, ?_⟩
  all_goals first
    | (go_simp; done)
    | (simp; done)
    | (go_simp; rfl)
    | (repeat (first | exact Below.refl _ _ | refine Below.alloc ?_ (by simp; try omega) _ | refine Below.drew ?_))
set_option maxHeartbeats 1000000 in
theorem codes9 (w : World) : Calls Tryz.prog 54 #[.int .i64 9] w fun e w' => CodesAt w w' 9 e := by
  go_enter Tryz.func54, Tryz.ntmps54
  go_wp2
  all_goals go_ret
  all_goals refine ⟨_, rfl, ?_, ?_, ?_, ?_, ?_⟩
  all_goals first
    | (go_simp; done)
    | (simp; done)
    | (go_simp; rfl)
    | (repeat (first | exact Below.refl _ _ | refine Below.alloc ?_ (by simp; try omega) _ | refine Below.drew ?_))
set_option maxHeartbeats 1000000 in
theorem codes10 (w : World) : Calls Tryz.prog 54 #[.int .i64 10] w fun e w' => CodesAt w w' 10 e := by
  go_enter Tryz.func54, Tryz.ntmps54
  go_wp2
  all_goals go_ret
  all_goals refine ⟨_, rfl, ?_, ?_, ?_, ?_, ?_⟩
  all_goals first
    | (go_simp; done)
    | (simp; done)
    | (go_simp; rfl)
    | (repeat (first | exact Below.refl _ _ | refine Below.alloc ?_ (by simp; try omega) _ | refine Below.drew ?_))
set_option maxHeartbeats 1000000 in
theorem codes11 (w : World) : Calls Tryz.prog 54 #[.int .i64 11] w fun e w' => CodesAt w w' 11 e := by
  go_enter Tryz.func54, Tryz.ntmps54
  go_wp2
  all_goals go_ret
  all_goals refine ⟨_, rfl, ?_, ?_, ?_, ?_, ?_⟩
  all_goals first
    | (go_simp; done)
    | (simp; done)
    | (go_simp; rfl)
    | (repeat (first | exact Below.refl _ _ | refine Below.alloc ?_ (by simp; try omega) _ | refine Below.drew ?_))
set_option maxHeartbeats 1000000 in
theorem codes12 (w : World) : Calls Tryz.prog 54 #[.int .i64 12] w fun e w' => CodesAt w w' 12 e := by
  go_enter Tryz.func54, Tryz.ntmps54
  go_wp2
  go_region
  all_goals go_wp2
  all_goals go_ret
  all_goals refine ⟨_, rfl, ?_, ?_, ?_, ?_, ?_⟩
  all_goals first
    | (go_simp; done)
    | (simp; done)
    | (go_simp; rfl)
    | (repeat (first | exact Below.refl _ _ | refine Below.alloc ?_ (by simp; try omega) _ | refine Below.drew ?_))
set_option maxHeartbeats 1000000 in
theorem codes13 (w : World) : Calls Tryz.prog 54 #[.int .i64 13] w fun e w' => CodesAt w w' 13 e := by
  go_enter Tryz.func54, Tryz.ntmps54
  go_wp2
  go_region
  all_goals go_wp2
  all_goals go_ret
  all_goals refine ⟨_, rfl, ?_, ?_, ?_, ?_, ?_⟩
  all_goals first
    | (go_simp; done)
    | (simp; done)
    | (go_simp; rfl)
    | (repeat (first | exact Below.refl _ _ | refine Below.alloc ?_ (by simp; try omega) _ | refine Below.drew ?_))
set_option maxHeartbeats 1000000 in
theorem codes14 (w : World) : Calls Tryz.prog 54 #[.int .i64 14] w fun e w' => CodesAt w w' 14 e := by
  go_enter Tryz.func54, Tryz.ntmps54
  go_wp2
  go_region
  all_goals go_wp2
  all_goals go_ret
  all_goals refine ⟨_, rfl, ?_, ?_, ?_, ?_, ?_⟩
  all_goals first
    | (go_simp; done)
    | (simp; done)
    | (go_simp; rfl)
    | (repeat (first | exact Below.refl _ _ | refine Below.alloc ?_ (by simp; try omega) _ | refine Below.drew ?_))
set_option maxHeartbeats 1000000 in
theorem codes15 (w : World) : Calls Tryz.prog 54 #[.int .i64 15] w fun e w' => CodesAt w w' 15 e := by
  go_enter Tryz.func54, Tryz.ntmps54
  go_wp2
  go_region
  all_goals go_wp2
  all_goals go_ret
  all_goals refine ⟨_, rfl, ?_, ?_, ?_, ?_, ?_⟩
  all_goals first
    | (go_simp; done)
    | (simp; done)
    | (go_simp; rfl)
    | (repeat (first | exact Below.refl _ _ | refine Below.alloc ?_ (by simp; try omega) _ | refine Below.drew ?_))
set_option maxHeartbeats 1000000 in
theorem codes16 (w : World) : Calls Tryz.prog 54 #[.int .i64 16] w fun e w' => CodesAt w w' 16 e := by
  go_enter Tryz.func54, Tryz.ntmps54
  go_wp2
  go_region
  all_goals go_wp2
  all_goals go_ret
  all_goals refine ⟨_, rfl, ?_, ?_, ?_, ?_, ?_⟩
  all_goals first
    | (go_simp; done)
    | (simp; done)
    | (go_simp; rfl)
    | (repeat (first | exact Below.refl _ _ | refine Below.alloc ?_ (by simp; try omega) _ | refine Below.drew ?_))
set_option maxHeartbeats 1000000 in
theorem codes17 (w : World) : Calls Tryz.prog 54 #[.int .i64 17] w fun e w' => CodesAt w w' 17 e := by
  go_enter Tryz.func54, Tryz.ntmps54
  go_wp2
  go_region
  all_goals go_wp2
  all_goals go_ret
  all_goals refine ⟨_, rfl, ?_, ?_, ?_, ?_, ?_⟩
  all_goals first
    | (go_simp; done)
    | (simp; done)
    | (go_simp; rfl)
    | (repeat (first | exact Below.refl _ _ | refine Below.alloc ?_ (by simp; try omega) _ | refine Below.drew ?_))
set_option maxHeartbeats 1000000 in
theorem codes18 (w : World) : Calls Tryz.prog 54 #[.int .i64 18] w fun e w' => CodesAt w w' 18 e := by
  go_enter Tryz.func54, Tryz.ntmps54
  go_wp2
  go_region
  all_goals go_wp2
  all_goals go_ret
  all_goals refine ⟨_, rfl, ?_, ?_, ?_, ?_, ?_⟩
  all_goals first
    | (go_simp; done)
    | (simp; done)
    | (go_simp; rfl)
    | (repeat (first | exact Below.refl _ _ | refine Below.alloc ?_ (by simp; try omega) _ | refine Below.drew ?_))
end Go.Proofs.YtabjcodpagjbjaaGreat
