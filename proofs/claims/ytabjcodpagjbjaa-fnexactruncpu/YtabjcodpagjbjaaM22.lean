import Derived.Test.YtabjcodpagjbjaaM07
import Derived.Deep.RegionHeld3
namespace Go.Proofs.Ytabjcodpagjbjaa
open Go.RowKit
set_option linter.unusedVariables false
set_option maxHeartbeats 1000000 in
theorem wordR (o f g op rd s1 s2 im : Int) (w : World) (ho : 0 ≤ o ∧ o ≤ 127) (hf : 0 ≤ f ∧ f ≤ 7) (hg : 0 ≤ g ∧ g ≤ 127) :
    Calls Try.prog 130 #[.agg #[.int .u32 o, .int .u32 f, .int .u32 g], .agg #[.int .i64 op, .int .i64 rd, .int .i64 s1, .int .i64 s2, .int .i64 im]] w fun e w' => e = .returned (.int .u32 (o + rd % 32 * 128 + f * 4096 + s1 % 32 * 32768 + s2 % 32 * 1048576 + g * 33554432)) ∧ Below w.heap.size w w' := by
  have hB0 : Below w.heap.size w ((w.alloc (.cells #[.int .u32 o, .int .u32 f, .int .u32 g] 95)).alloc (.cells #[.int .i64 op, .int .i64 rd, .int .i64 s1, .int .i64 s2, .int .i64 im] 64)) := ((Below.refl _ _).alloc (Nat.le_refl _) _).alloc (by simp) _
  go_enter Try.func130, Try.ntmps130
  go_wp2_with (go_at_call 111; refine (move_any _ _ _ _ _ (by first | omega | (rw [IntKind.wrap_u32']; omega)) (by omega) (by omega) (by omega)).mono ?_; rintro e w' ⟨rfl, rfl⟩)
  go_region_held3 (fun W => W.cell? ⟨w.heap.size, 0, none⟩ = some (.int .u32 o) ∧ W.cell? ⟨w.heap.size, 1, none⟩ = some (.int .u32 f) ∧ W.cell? ⟨w.heap.size, 2, none⟩ = some (.int .u32 g) ∧
      W.cell? ⟨w.heap.size + 1, 0, none⟩ = some (.int .i64 op) ∧ W.cell? ⟨w.heap.size + 1, 1, none⟩ = some (.int .i64 rd) ∧ W.cell? ⟨w.heap.size + 1, 2, none⟩ = some (.int .i64 s1) ∧ W.cell? ⟨w.heap.size + 1, 3, none⟩ = some (.int .i64 s2) ∧ W.cell? ⟨w.heap.size + 1, 4, none⟩ = some (.int .i64 im)) (go_simp)
    (first
    | (go_at_call 119; refine (fb_any _ _ _ _ ho hf hg).mono ?_; rintro e w' ⟨rfl, rfl⟩)
    | (go_at_call 112; refine (putRd_any _ _ _ _ _ _).mono ?_; rintro e w' ⟨rfl, rfl⟩)
    | (go_at_call 120; refine (putRs1_any _ _ _ _ _ _).mono ?_; rintro e w' ⟨rfl, rfl⟩)
    | (go_at_call 124; refine (putRs2_any _ _ _ _ _ _).mono ?_; rintro e w' ⟨rfl, rfl⟩)
    | (go_at_call 111; refine (move_any _ _ _ _ _ (by first | omega | (rw [IntKind.wrap_u32']; omega)) (by omega) (by omega) (by omega)).mono ?_; rintro e w' ⟨rfl, rfl⟩))
  all_goals go_wp2
  all_goals go_ret
  all_goals refine ⟨ret_int ?_, ?_⟩
  all_goals first
    | (simp only [mvi_0_5_7, mvi_0_5_15, mvi_0_5_20]; rw [orR o f g _ _ _ ho hf hg (by omega) (by omega) (by omega)]; omega)
    | (repeat (first | exact hB0 | exact hB0.drew | refine Below.alloc ?_ (by simp; omega) _ | refine Below.drew ?_))
set_option maxHeartbeats 1000000 in
theorem wordI (o f op rd s1 s2 im : Int) (w : World) (ho : 0 ≤ o ∧ o ≤ 127) (hf : 0 ≤ f ∧ f ≤ 7) :
    Calls Try.prog 117 #[.agg #[.int .u32 o, .int .u32 f], .agg #[.int .i64 op, .int .i64 rd, .int .i64 s1, .int .i64 s2, .int .i64 im]] w fun e w' => e = .returned (.int .u32 (o + rd % 32 * 128 + f * 4096 + s1 % 32 * 32768 + im % 4096 * 1048576)) ∧ Below w.heap.size w w' := by
  have hB0 : Below w.heap.size w ((w.alloc (.cells #[.int .u32 o, .int .u32 f] 90)).alloc (.cells #[.int .i64 op, .int .i64 rd, .int .i64 s1, .int .i64 s2, .int .i64 im] 64)) := ((Below.refl _ _).alloc (Nat.le_refl _) _).alloc (by simp) _
  go_enter Try.func117, Try.ntmps117
  go_wp2_with (go_at_call 111; refine (move_any _ _ _ _ _ (by first | omega | (rw [IntKind.wrap_u32']; omega)) (by omega) (by omega) (by omega)).mono ?_; rintro e w' ⟨rfl, rfl⟩)
  go_region_held3 (fun W => W.cell? ⟨w.heap.size, 0, none⟩ = some (.int .u32 o) ∧ W.cell? ⟨w.heap.size, 1, none⟩ = some (.int .u32 f) ∧
      W.cell? ⟨w.heap.size + 1, 0, none⟩ = some (.int .i64 op) ∧ W.cell? ⟨w.heap.size + 1, 1, none⟩ = some (.int .i64 rd) ∧ W.cell? ⟨w.heap.size + 1, 2, none⟩ = some (.int .i64 s1) ∧ W.cell? ⟨w.heap.size + 1, 3, none⟩ = some (.int .i64 s2) ∧ W.cell? ⟨w.heap.size + 1, 4, none⟩ = some (.int .i64 im)) (go_simp)
    (first
    | (go_at_call 119; refine (fb0_any _ _ _ ho hf).mono ?_; rintro e w' ⟨rfl, rfl⟩)
    | (go_at_call 112; refine (putRd_any _ _ _ _ _ _).mono ?_; rintro e w' ⟨rfl, rfl⟩)
    | (go_at_call 120; refine (putRs1_any _ _ _ _ _ _).mono ?_; rintro e w' ⟨rfl, rfl⟩)
    | (go_at_call 124; refine (putRs2_any _ _ _ _ _ _).mono ?_; rintro e w' ⟨rfl, rfl⟩)
    | (go_at_call 111; refine (move_any _ _ _ _ _ (by first | omega | (rw [IntKind.wrap_u32']; omega)) (by omega) (by omega) (by omega)).mono ?_; rintro e w' ⟨rfl, rfl⟩))
  all_goals go_wp2
  all_goals go_ret
  all_goals refine ⟨ret_int ?_, ?_⟩
  all_goals first
    | (simp only [IntKind.wrap_u32', mvi_0_5_7, mvi_0_5_15, mvi_0_12_20]; rw [orI o f _ _ _ ho hf (by omega) (by omega) (by omega)]; omega)
    | (repeat (first | exact hB0 | exact hB0.drew | refine Below.alloc ?_ (by simp; omega) _ | refine Below.drew ?_))
set_option maxHeartbeats 1000000 in
theorem wordH (o f g op rd s1 s2 im : Int) (w : World) (ho : 0 ≤ o ∧ o ≤ 127) (hf : 0 ≤ f ∧ f ≤ 7) (hg : 0 ≤ g ∧ g ≤ 127) :
    Calls Try.prog 128 #[.agg #[.int .u32 o, .int .u32 f, .int .u32 g], .agg #[.int .i64 op, .int .i64 rd, .int .i64 s1, .int .i64 s2, .int .i64 im]] w fun e w' => e = .returned (.int .u32 (o + rd % 32 * 128 + f * 4096 + s1 % 32 * 32768 + im % 32 * 1048576 + g * 33554432)) ∧ Below w.heap.size w w' := by
  have hB0 : Below w.heap.size w ((w.alloc (.cells #[.int .u32 o, .int .u32 f, .int .u32 g] 94)).alloc (.cells #[.int .i64 op, .int .i64 rd, .int .i64 s1, .int .i64 s2, .int .i64 im] 64)) := ((Below.refl _ _).alloc (Nat.le_refl _) _).alloc (by simp) _
  go_enter Try.func128, Try.ntmps128
  go_wp2_with (go_at_call 111; refine (move_any _ _ _ _ _ (by first | omega | (rw [IntKind.wrap_u32']; omega)) (by omega) (by omega) (by omega)).mono ?_; rintro e w' ⟨rfl, rfl⟩)
  go_region_held3 (fun W => W.cell? ⟨w.heap.size, 0, none⟩ = some (.int .u32 o) ∧ W.cell? ⟨w.heap.size, 1, none⟩ = some (.int .u32 f) ∧ W.cell? ⟨w.heap.size, 2, none⟩ = some (.int .u32 g) ∧
      W.cell? ⟨w.heap.size + 1, 0, none⟩ = some (.int .i64 op) ∧ W.cell? ⟨w.heap.size + 1, 1, none⟩ = some (.int .i64 rd) ∧ W.cell? ⟨w.heap.size + 1, 2, none⟩ = some (.int .i64 s1) ∧ W.cell? ⟨w.heap.size + 1, 3, none⟩ = some (.int .i64 s2) ∧ W.cell? ⟨w.heap.size + 1, 4, none⟩ = some (.int .i64 im)) (go_simp)
    (first
    | (go_at_call 119; refine (fb_any _ _ _ _ ho hf hg).mono ?_; rintro e w' ⟨rfl, rfl⟩)
    | (go_at_call 112; refine (putRd_any _ _ _ _ _ _).mono ?_; rintro e w' ⟨rfl, rfl⟩)
    | (go_at_call 120; refine (putRs1_any _ _ _ _ _ _).mono ?_; rintro e w' ⟨rfl, rfl⟩)
    | (go_at_call 124; refine (putRs2_any _ _ _ _ _ _).mono ?_; rintro e w' ⟨rfl, rfl⟩)
    | (go_at_call 111; refine (move_any _ _ _ _ _ (by first | omega | (rw [IntKind.wrap_u32']; omega)) (by omega) (by omega) (by omega)).mono ?_; rintro e w' ⟨rfl, rfl⟩))
  all_goals go_wp2
  all_goals go_ret
  all_goals refine ⟨ret_int ?_, ?_⟩
  all_goals first
    | (simp only [IntKind.wrap_u32', mvi_0_5_7, mvi_0_5_15, mvi_0_5_20]; rw [orR o f g _ _ _ ho hf hg (by omega) (by omega) (by omega)]; omega)
    | (repeat (first | exact hB0 | exact hB0.drew | refine Below.alloc ?_ (by simp; omega) _ | refine Below.drew ?_))
set_option maxHeartbeats 1000000 in
theorem wordS (o f op rd s1 s2 im : Int) (w : World) (ho : 0 ≤ o ∧ o ≤ 127) (hf : 0 ≤ f ∧ f ≤ 7) :
    Calls Try.prog 126 #[.agg #[.int .u32 o, .int .u32 f], .agg #[.int .i64 op, .int .i64 rd, .int .i64 s1, .int .i64 s2, .int .i64 im]] w fun e w' => e = .returned (.int .u32 (o + im % 32 * 128 + f * 4096 + s1 % 32 * 32768 + s2 % 32 * 1048576 + im / 32 % 128 * 33554432)) ∧ Below w.heap.size w w' := by
  have hB0 : Below w.heap.size w ((w.alloc (.cells #[.int .u32 o, .int .u32 f] 92)).alloc (.cells #[.int .i64 op, .int .i64 rd, .int .i64 s1, .int .i64 s2, .int .i64 im] 64)) := ((Below.refl _ _).alloc (Nat.le_refl _) _).alloc (by simp) _
  go_enter Try.func126, Try.ntmps126
  go_wp2_with (go_at_call 111; refine (move_any _ _ _ _ _ (by first | omega | (rw [IntKind.wrap_u32']; omega)) (by omega) (by omega) (by omega)).mono ?_; rintro e w' ⟨rfl, rfl⟩)
  go_region_held3 (fun W => W.cell? ⟨w.heap.size, 0, none⟩ = some (.int .u32 o) ∧ W.cell? ⟨w.heap.size, 1, none⟩ = some (.int .u32 f) ∧
      W.cell? ⟨w.heap.size + 1, 0, none⟩ = some (.int .i64 op) ∧ W.cell? ⟨w.heap.size + 1, 1, none⟩ = some (.int .i64 rd) ∧ W.cell? ⟨w.heap.size + 1, 2, none⟩ = some (.int .i64 s1) ∧ W.cell? ⟨w.heap.size + 1, 3, none⟩ = some (.int .i64 s2) ∧ W.cell? ⟨w.heap.size + 1, 4, none⟩ = some (.int .i64 im)) (go_simp)
    (first
    | (go_at_call 119; refine (fb0_any _ _ _ ho hf).mono ?_; rintro e w' ⟨rfl, rfl⟩)
    | (go_at_call 112; refine (putRd_any _ _ _ _ _ _).mono ?_; rintro e w' ⟨rfl, rfl⟩)
    | (go_at_call 120; refine (putRs1_any _ _ _ _ _ _).mono ?_; rintro e w' ⟨rfl, rfl⟩)
    | (go_at_call 124; refine (putRs2_any _ _ _ _ _ _).mono ?_; rintro e w' ⟨rfl, rfl⟩)
    | (go_at_call 111; refine (move_any _ _ _ _ _ (by first | omega | (rw [IntKind.wrap_u32']; omega)) (by omega) (by omega) (by omega)).mono ?_; rintro e w' ⟨rfl, rfl⟩))
  all_goals go_wp2
  all_goals go_ret
  all_goals refine ⟨ret_int ?_, ?_⟩
  all_goals first
    | (simp only [mvi_0_5_15, mvi_0_5_20, mvi_0_5_7, mvi_5_7_25]; rw [orS o f _ _ _ _ ho hf (by omega) (by omega) (by omega) (by omega)]; omega)
    | (repeat (first | exact hB0 | exact hB0.drew | refine Below.alloc ?_ (by simp; omega) _ | refine Below.drew ?_))
set_option maxHeartbeats 1000000 in
theorem wordB (o f op rd s1 s2 im : Int) (w : World) (ho : 0 ≤ o ∧ o ≤ 127) (hf : 0 ≤ f ∧ f ≤ 7) :
    Calls Try.prog 122 #[.agg #[.int .u32 o, .int .u32 f], .agg #[.int .i64 op, .int .i64 rd, .int .i64 s1, .int .i64 s2, .int .i64 im]] w fun e w' => e = .returned (.int .u32 (o + im / 2048 % 2 * 128 + im / 2 % 16 * 256 + f * 4096 + s1 % 32 * 32768 + s2 % 32 * 1048576 + im / 32 % 64 * 33554432 + im / 4096 % 2 * 2147483648)) ∧ Below w.heap.size w w' := by
  have hB0 : Below w.heap.size w ((w.alloc (.cells #[.int .u32 o, .int .u32 f] 91)).alloc (.cells #[.int .i64 op, .int .i64 rd, .int .i64 s1, .int .i64 s2, .int .i64 im] 64)) := ((Below.refl _ _).alloc (Nat.le_refl _) _).alloc (by simp) _
  go_enter Try.func122, Try.ntmps122
  go_wp2_with (go_at_call 111; refine (move_any _ _ _ _ _ (by first | omega | (rw [IntKind.wrap_u32']; omega)) (by omega) (by omega) (by omega)).mono ?_; rintro e w' ⟨rfl, rfl⟩)
  go_region_held3 (fun W => W.cell? ⟨w.heap.size, 0, none⟩ = some (.int .u32 o) ∧ W.cell? ⟨w.heap.size, 1, none⟩ = some (.int .u32 f) ∧
      W.cell? ⟨w.heap.size + 1, 0, none⟩ = some (.int .i64 op) ∧ W.cell? ⟨w.heap.size + 1, 1, none⟩ = some (.int .i64 rd) ∧ W.cell? ⟨w.heap.size + 1, 2, none⟩ = some (.int .i64 s1) ∧ W.cell? ⟨w.heap.size + 1, 3, none⟩ = some (.int .i64 s2) ∧ W.cell? ⟨w.heap.size + 1, 4, none⟩ = some (.int .i64 im)) (go_simp)
    (first
    | (go_at_call 119; refine (fb0_any _ _ _ ho hf).mono ?_; rintro e w' ⟨rfl, rfl⟩)
    | (go_at_call 112; refine (putRd_any _ _ _ _ _ _).mono ?_; rintro e w' ⟨rfl, rfl⟩)
    | (go_at_call 120; refine (putRs1_any _ _ _ _ _ _).mono ?_; rintro e w' ⟨rfl, rfl⟩)
    | (go_at_call 124; refine (putRs2_any _ _ _ _ _ _).mono ?_; rintro e w' ⟨rfl, rfl⟩)
    | (go_at_call 111; refine (move_any _ _ _ _ _ (by first | omega | (rw [IntKind.wrap_u32']; omega)) (by omega) (by omega) (by omega)).mono ?_; rintro e w' ⟨rfl, rfl⟩))
  all_goals go_wp2
  all_goals go_ret
  all_goals refine ⟨ret_int ?_, ?_⟩
  all_goals first
    | (simp only [mvi_0_5_15, mvi_0_5_20, mvi_11_1_7, mvi_1_4_8, mvi_5_6_25, mvi_12_1_31]; rw [orSB _ _ _ _ (by omega) (by omega) (by omega) (by omega), orB o f _ _ _ _ _ _ ho hf (by omega) (by omega) (by omega) (by omega) (by omega) (by omega)]; omega)
    | (repeat (first | exact hB0 | exact hB0.drew | refine Below.alloc ?_ (by simp; omega) _ | refine Below.drew ?_))
set_option maxHeartbeats 1000000 in
theorem wordU (o op rd s1 s2 im : Int) (w : World) (ho : 0 ≤ o ∧ o ≤ 127) :
    Calls Try.prog 109 #[.agg #[.int .u32 o], .agg #[.int .i64 op, .int .i64 rd, .int .i64 s1, .int .i64 s2, .int .i64 im]] w fun e w' => e = .returned (.int .u32 (o + rd % 32 * 128 + im % 1048576 * 4096)) ∧ Below w.heap.size w w' := by
  have hB0 : Below w.heap.size w ((w.alloc (.cells #[.int .u32 o] 87)).alloc (.cells #[.int .i64 op, .int .i64 rd, .int .i64 s1, .int .i64 s2, .int .i64 im] 64)) := ((Below.refl _ _).alloc (Nat.le_refl _) _).alloc (by simp) _
  go_enter Try.func109, Try.ntmps109
  go_wp2_with (go_at_call 111; refine (move_any _ _ _ _ _ (by first | omega | (rw [IntKind.wrap_u32']; omega)) (by omega) (by omega) (by omega)).mono ?_; rintro e w' ⟨rfl, rfl⟩)
  go_region_held3 (fun W => W.cell? ⟨w.heap.size, 0, none⟩ = some (.int .u32 o) ∧
      W.cell? ⟨w.heap.size + 1, 0, none⟩ = some (.int .i64 op) ∧ W.cell? ⟨w.heap.size + 1, 1, none⟩ = some (.int .i64 rd) ∧ W.cell? ⟨w.heap.size + 1, 2, none⟩ = some (.int .i64 s1) ∧ W.cell? ⟨w.heap.size + 1, 3, none⟩ = some (.int .i64 s2) ∧ W.cell? ⟨w.heap.size + 1, 4, none⟩ = some (.int .i64 im)) (go_simp)
    (first
    | (go_at_call 112; refine (putRd_any _ _ _ _ _ _).mono ?_; rintro e w' ⟨rfl, rfl⟩)
    | (go_at_call 120; refine (putRs1_any _ _ _ _ _ _).mono ?_; rintro e w' ⟨rfl, rfl⟩)
    | (go_at_call 124; refine (putRs2_any _ _ _ _ _ _).mono ?_; rintro e w' ⟨rfl, rfl⟩)
    | (go_at_call 111; refine (move_any _ _ _ _ _ (by first | omega | (rw [IntKind.wrap_u32']; omega)) (by omega) (by omega) (by omega)).mono ?_; rintro e w' ⟨rfl, rfl⟩))
  all_goals go_wp2
  all_goals go_ret
  all_goals refine ⟨ret_int ?_, ?_⟩
  all_goals first
    | (simp only [IntKind.wrap_u32', mvi_0_5_7, mvi_0_20_12]; rw [orU o _ _ ho (by omega) (by omega)]; omega)
    | (repeat (first | exact hB0 | exact hB0.drew | refine Below.alloc ?_ (by simp; omega) _ | refine Below.drew ?_))
set_option maxHeartbeats 1000000 in
theorem wordJ (o op rd s1 s2 im : Int) (w : World) (ho : 0 ≤ o ∧ o ≤ 127) :
    Calls Try.prog 114 #[.agg #[.int .u32 o], .agg #[.int .i64 op, .int .i64 rd, .int .i64 s1, .int .i64 s2, .int .i64 im]] w fun e w' => e = .returned (.int .u32 (o + rd % 32 * 128 + im / 4096 % 256 * 4096 + im / 2048 % 2 * 1048576 + im / 2 % 1024 * 2097152 + im / 1048576 % 2 * 2147483648)) ∧ Below w.heap.size w w' := by
  have hB0 : Below w.heap.size w ((w.alloc (.cells #[.int .u32 o] 88)).alloc (.cells #[.int .i64 op, .int .i64 rd, .int .i64 s1, .int .i64 s2, .int .i64 im] 64)) := ((Below.refl _ _).alloc (Nat.le_refl _) _).alloc (by simp) _
  go_enter Try.func114, Try.ntmps114
  go_wp2_with (go_at_call 111; refine (move_any _ _ _ _ _ (by first | omega | (rw [IntKind.wrap_u32']; omega)) (by omega) (by omega) (by omega)).mono ?_; rintro e w' ⟨rfl, rfl⟩)
  go_region_held3 (fun W => W.cell? ⟨w.heap.size, 0, none⟩ = some (.int .u32 o) ∧
      W.cell? ⟨w.heap.size + 1, 0, none⟩ = some (.int .i64 op) ∧ W.cell? ⟨w.heap.size + 1, 1, none⟩ = some (.int .i64 rd) ∧ W.cell? ⟨w.heap.size + 1, 2, none⟩ = some (.int .i64 s1) ∧ W.cell? ⟨w.heap.size + 1, 3, none⟩ = some (.int .i64 s2) ∧ W.cell? ⟨w.heap.size + 1, 4, none⟩ = some (.int .i64 im)) (go_simp)
    (first
    | (go_at_call 112; refine (putRd_any _ _ _ _ _ _).mono ?_; rintro e w' ⟨rfl, rfl⟩)
    | (go_at_call 120; refine (putRs1_any _ _ _ _ _ _).mono ?_; rintro e w' ⟨rfl, rfl⟩)
    | (go_at_call 124; refine (putRs2_any _ _ _ _ _ _).mono ?_; rintro e w' ⟨rfl, rfl⟩)
    | (go_at_call 111; refine (move_any _ _ _ _ _ (by first | omega | (rw [IntKind.wrap_u32']; omega)) (by omega) (by omega) (by omega)).mono ?_; rintro e w' ⟨rfl, rfl⟩))
  all_goals go_wp2
  all_goals go_ret
  all_goals refine ⟨ret_int ?_, ?_⟩
  all_goals first
    | (simp only [mvi_0_5_7, mvi_12_8_12, mvi_11_1_20, mvi_1_10_21, mvi_20_1_31]; rw [orSJ _ _ _ _ (by omega) (by omega) (by omega) (by omega), orJ o _ _ _ _ _ ho (by omega) (by omega) (by omega) (by omega) (by omega)]; omega)
    | (repeat (first | exact hB0 | exact hB0.drew | refine Below.alloc ?_ (by simp; omega) _ | refine Below.drew ?_))
set_option maxHeartbeats 1000000 in
theorem wordE (o op rd s1 s2 im : Int) (w : World) (ho : 0 ≤ o ∧ o ≤ 127) :
    Calls Try.prog 132 #[.agg #[.int .u32 o], .agg #[.int .i64 op, .int .i64 rd, .int .i64 s1, .int .i64 s2, .int .i64 im]] w fun e w' => e = .returned (.int .u32 (o)) ∧ Below w.heap.size w w' := by
  have _hB0 : Below w.heap.size w ((w.alloc (.cells #[.int .u32 o] 96)).alloc (.cells #[.int .i64 op, .int .i64 rd, .int .i64 s1, .int .i64 s2, .int .i64 im] 64)) := ((Below.refl _ _).alloc (Nat.le_refl _) _).alloc (by simp) _
  go_enter Try.func132, Try.ntmps132
  go_wp2
  go_ret
  exact ⟨rfl, by first | exact (Below.refl _ _).alloc (Nat.le_refl _) _ | exact _hB0⟩
end Go.Proofs.Ytabjcodpagjbjaa
