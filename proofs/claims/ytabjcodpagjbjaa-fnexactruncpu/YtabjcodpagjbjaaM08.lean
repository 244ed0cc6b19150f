import Derived.Test.YtabjcodpagjbjaaM07
namespace Go.Proofs.Ytabjcodpagjbjaa
open Go.RowKit
set_option linter.unusedVariables false
def sg (x h m : Int) : Int := if x ≥ h then x - m else x
theorem or_bd (a b : Int) : 0 ≤ bits .or .u32 a b ∧ bits .or .u32 a b ≤ 4294967295 := by
  unfold bits
  dsimp only
  rw [IntKind.wrap_u32']
  omega
set_option maxHeartbeats 1000000 in
theorem instR (o f g v : Int) (w : World) (hv : 0 ≤ v ∧ v ≤ 4294967295) :
    Calls Try.prog 129 #[.agg #[.int .u32 o, .int .u32 f, .int .u32 g], .int .u32 v] w fun e w' => e = .returned (.agg #[.int .i64 (0), .int .i64 (v / 128 % 32), .int .i64 (v / 32768 % 32), .int .i64 (v / 1048576 % 32), .int .i64 (0)]) ∧ Below w.heap.size w w' := by
  have E : Hid ((Ending.returned (.agg #[.int .i64 (0), .int .i64 (mvi v 7 5 0), .int .i64 (mvi v 15 5 0), .int .i64 (mvi v 20 5 0), .int .i64 (0)]) : Ending) = .returned (.agg #[.int .i64 (0), .int .i64 (v / 128 % 32), .int .i64 (v / 32768 % 32), .int .i64 (v / 1048576 % 32), .int .i64 (0)])) := by rw [mvi_7_5_0, mvi_15_5_0, mvi_20_5_0]; exact Eq.refl _
  go_enter Try.func129, Try.ntmps129
  go_wp2_with (first
    | (go_at_call 110; refine (takeRd_any _ _ hv).mono ?_; rintro e w' ⟨rfl, rfl⟩)
    | (go_at_call 118; refine (takeRs1_any _ _ hv).mono ?_; rintro e w' ⟨rfl, rfl⟩)
    | (go_at_call 123; refine (takeRs2_any _ _ hv).mono ?_; rintro e w' ⟨rfl, rfl⟩)
    | (go_at_call 115; refine (sx_any _ _ _ (by first | exact mvi_bd _ _ _ _ | exact or_bd _ _) (by omega)).mono ?_; rintro e w' ⟨rfl, rfl⟩)
    | (go_at_call 111; refine (move_any _ _ _ _ _ hv (by omega) (by omega) (by omega)).mono ?_; rintro e w' ⟨rfl, rfl⟩))
  refine bodyPost_ret (v := .agg #[.int .i64 (0), .int .i64 (mvi v 7 5 0), .int .i64 (mvi v 15 5 0), .int .i64 (mvi v 20 5 0), .int .i64 (0)]) (by simp [results, Try.results129, go_sem]) rfl ⟨E.out, ?_⟩
  first | exact (Below.refl _ _).alloc (Nat.le_refl _) _ | exact ((Below.refl _ _).alloc (Nat.le_refl _) _).alloc (by simp) _
theorem immI (v : Int) (hv : 0 ≤ v ∧ v ≤ 4294967295) : sxi (mvi v 20 12 0) 12 = sg (v / 1048576 % 4096) 2048 4096 := by
  simp only [mvi_20_12_0]
  rw [sxi_12 _ (by omega)]
  rfl
set_option maxHeartbeats 1000000 in
theorem instI (o f v : Int) (w : World) (hv : 0 ≤ v ∧ v ≤ 4294967295) :
    Calls Try.prog 116 #[.agg #[.int .u32 o, .int .u32 f], .int .u32 v] w fun e w' => e = .returned (.agg #[.int .i64 (0), .int .i64 (v / 128 % 32), .int .i64 (v / 32768 % 32), .int .i64 (0), .int .i64 (sg (v / 1048576 % 4096) 2048 4096)]) ∧ Below w.heap.size w w' := by
  have E : Hid ((Ending.returned (.agg #[.int .i64 (0), .int .i64 (mvi v 7 5 0), .int .i64 (mvi v 15 5 0), .int .i64 (0), .int .i64 (sxi (mvi v 20 12 0) 12)]) : Ending) = .returned (.agg #[.int .i64 (0), .int .i64 (v / 128 % 32), .int .i64 (v / 32768 % 32), .int .i64 (0), .int .i64 (sg (v / 1048576 % 4096) 2048 4096)])) := by rw [immI v hv, mvi_7_5_0, mvi_15_5_0]; exact Eq.refl _
  go_enter Try.func116, Try.ntmps116
  go_wp2_with (first
    | (go_at_call 110; refine (takeRd_any _ _ hv).mono ?_; rintro e w' ⟨rfl, rfl⟩)
    | (go_at_call 118; refine (takeRs1_any _ _ hv).mono ?_; rintro e w' ⟨rfl, rfl⟩)
    | (go_at_call 123; refine (takeRs2_any _ _ hv).mono ?_; rintro e w' ⟨rfl, rfl⟩)
    | (go_at_call 115; refine (sx_any _ _ _ (by first | exact mvi_bd _ _ _ _ | exact or_bd _ _) (by omega)).mono ?_; rintro e w' ⟨rfl, rfl⟩)
    | (go_at_call 111; refine (move_any _ _ _ _ _ hv (by omega) (by omega) (by omega)).mono ?_; rintro e w' ⟨rfl, rfl⟩))
  refine bodyPost_ret (v := .agg #[.int .i64 (0), .int .i64 (mvi v 7 5 0), .int .i64 (mvi v 15 5 0), .int .i64 (0), .int .i64 (sxi (mvi v 20 12 0) 12)]) (by simp [results, Try.results116, go_sem]) rfl ⟨E.out, ?_⟩
  first | exact (Below.refl _ _).alloc (Nat.le_refl _) _ | exact ((Below.refl _ _).alloc (Nat.le_refl _) _).alloc (by simp) _
theorem immH (v : Int) (hv : 0 ≤ v ∧ v ≤ 4294967295) : mvi v 20 5 0 = v / 1048576 % 32 := by
  simp only [mvi_20_5_0]
set_option maxHeartbeats 1000000 in
theorem instH (o f g v : Int) (w : World) (hv : 0 ≤ v ∧ v ≤ 4294967295) :
    Calls Try.prog 127 #[.agg #[.int .u32 o, .int .u32 f, .int .u32 g], .int .u32 v] w fun e w' => e = .returned (.agg #[.int .i64 (0), .int .i64 (v / 128 % 32), .int .i64 (v / 32768 % 32), .int .i64 (0), .int .i64 (v / 1048576 % 32)]) ∧ Below w.heap.size w w' := by
  have hbm := mvi_bd v 20 5 0
  have E : Hid ((Ending.returned (.agg #[.int .i64 (0), .int .i64 (mvi v 7 5 0), .int .i64 (mvi v 15 5 0), .int .i64 (0), .int .i64 (mvi v 20 5 0)]) : Ending) = .returned (.agg #[.int .i64 (0), .int .i64 (v / 128 % 32), .int .i64 (v / 32768 % 32), .int .i64 (0), .int .i64 (v / 1048576 % 32)])) := by rw [immH v hv, mvi_7_5_0, mvi_15_5_0]; exact Eq.refl _
  go_enter Try.func127, Try.ntmps127
  go_wp2_with (first
    | (go_at_call 110; refine (takeRd_any _ _ hv).mono ?_; rintro e w' ⟨rfl, rfl⟩)
    | (go_at_call 118; refine (takeRs1_any _ _ hv).mono ?_; rintro e w' ⟨rfl, rfl⟩)
    | (go_at_call 123; refine (takeRs2_any _ _ hv).mono ?_; rintro e w' ⟨rfl, rfl⟩)
    | (go_at_call 115; refine (sx_any _ _ _ (by first | exact mvi_bd _ _ _ _ | exact or_bd _ _) (by omega)).mono ?_; rintro e w' ⟨rfl, rfl⟩)
    | (go_at_call 111; refine (move_any _ _ _ _ _ hv (by omega) (by omega) (by omega)).mono ?_; rintro e w' ⟨rfl, rfl⟩))
  refine bodyPost_ret (v := .agg #[.int .i64 (0), .int .i64 (mvi v 7 5 0), .int .i64 (mvi v 15 5 0), .int .i64 (0), .int .i64 (mvi v 20 5 0)]) (by simp [results, Try.results127, go_sem]) rfl ⟨E.out, ?_⟩
  first | exact (Below.refl _ _).alloc (Nat.le_refl _) _ | exact ((Below.refl _ _).alloc (Nat.le_refl _) _).alloc (by simp) _
theorem immS (v : Int) (hv : 0 ≤ v ∧ v ≤ 4294967295) : sxi (bits .or .u32 (mvi v 7 5 0) (mvi v 25 7 5)) 12 = sg (v / 128 % 32 + v / 33554432 % 128 * 32) 2048 4096 := by
  simp only [mvi_7_5_0, mvi_25_7_5]
  rw [orIS _ _ (by omega) (by omega)]
  rw [sxi_12 _ (by omega)]
  rfl
set_option maxHeartbeats 1000000 in
theorem instS (o f v : Int) (w : World) (hv : 0 ≤ v ∧ v ≤ 4294967295) :
    Calls Try.prog 125 #[.agg #[.int .u32 o, .int .u32 f], .int .u32 v] w fun e w' => e = .returned (.agg #[.int .i64 (0), .int .i64 (0), .int .i64 (v / 32768 % 32), .int .i64 (v / 1048576 % 32), .int .i64 (sg (v / 128 % 32 + v / 33554432 % 128 * 32) 2048 4096)]) ∧ Below w.heap.size w w' := by
  have E : Hid ((Ending.returned (.agg #[.int .i64 (0), .int .i64 (0), .int .i64 (mvi v 15 5 0), .int .i64 (mvi v 20 5 0), .int .i64 (sxi (bits .or .u32 (mvi v 7 5 0) (mvi v 25 7 5)) 12)]) : Ending) = .returned (.agg #[.int .i64 (0), .int .i64 (0), .int .i64 (v / 32768 % 32), .int .i64 (v / 1048576 % 32), .int .i64 (sg (v / 128 % 32 + v / 33554432 % 128 * 32) 2048 4096)])) := by rw [immS v hv, mvi_15_5_0, mvi_20_5_0]; exact Eq.refl _
  go_enter Try.func125, Try.ntmps125
  go_wp2_with (first
    | (go_at_call 110; refine (takeRd_any _ _ hv).mono ?_; rintro e w' ⟨rfl, rfl⟩)
    | (go_at_call 118; refine (takeRs1_any _ _ hv).mono ?_; rintro e w' ⟨rfl, rfl⟩)
    | (go_at_call 123; refine (takeRs2_any _ _ hv).mono ?_; rintro e w' ⟨rfl, rfl⟩)
    | (go_at_call 115; refine (sx_any _ _ _ (by first | exact mvi_bd _ _ _ _ | exact or_bd _ _) (by omega)).mono ?_; rintro e w' ⟨rfl, rfl⟩)
    | (go_at_call 111; refine (move_any _ _ _ _ _ hv (by omega) (by omega) (by omega)).mono ?_; rintro e w' ⟨rfl, rfl⟩))
  refine bodyPost_ret (v := .agg #[.int .i64 (0), .int .i64 (0), .int .i64 (mvi v 15 5 0), .int .i64 (mvi v 20 5 0), .int .i64 (sxi (bits .or .u32 (mvi v 7 5 0) (mvi v 25 7 5)) 12)]) (by simp [results, Try.results125, go_sem]) rfl ⟨E.out, ?_⟩
  first | exact (Below.refl _ _).alloc (Nat.le_refl _) _ | exact ((Below.refl _ _).alloc (Nat.le_refl _) _).alloc (by simp) _
theorem immB (v : Int) (hv : 0 ≤ v ∧ v ≤ 4294967295) : sxi (bits .or .u32 (bits .or .u32 (bits .or .u32 (mvi v 7 1 11) (mvi v 8 4 1)) (mvi v 25 6 5)) (mvi v 31 1 12)) 13 = sg (v / 256 % 16 * 2 + v / 33554432 % 64 * 32 + v / 128 % 2 * 2048 + v / 2147483648 % 2 * 4096) 4096 8192 := by
  simp only [mvi_7_1_11, mvi_8_4_1, mvi_25_6_5, mvi_31_1_12]
  rw [orIB _ _ _ _ (by omega) (by omega) (by omega) (by omega)]
  rw [sxi_13 _ (by omega)]
  rfl
set_option maxHeartbeats 1000000 in
theorem instB (o f v : Int) (w : World) (hv : 0 ≤ v ∧ v ≤ 4294967295) :
    Calls Try.prog 121 #[.agg #[.int .u32 o, .int .u32 f], .int .u32 v] w fun e w' => e = .returned (.agg #[.int .i64 (0), .int .i64 (0), .int .i64 (v / 32768 % 32), .int .i64 (v / 1048576 % 32), .int .i64 (sg (v / 256 % 16 * 2 + v / 33554432 % 64 * 32 + v / 128 % 2 * 2048 + v / 2147483648 % 2 * 4096) 4096 8192)]) ∧ Below w.heap.size w w' := by
  have E : Hid ((Ending.returned (.agg #[.int .i64 (0), .int .i64 (0), .int .i64 (mvi v 15 5 0), .int .i64 (mvi v 20 5 0), .int .i64 (sxi (bits .or .u32 (bits .or .u32 (bits .or .u32 (mvi v 7 1 11) (mvi v 8 4 1)) (mvi v 25 6 5)) (mvi v 31 1 12)) 13)]) : Ending) = .returned (.agg #[.int .i64 (0), .int .i64 (0), .int .i64 (v / 32768 % 32), .int .i64 (v / 1048576 % 32), .int .i64 (sg (v / 256 % 16 * 2 + v / 33554432 % 64 * 32 + v / 128 % 2 * 2048 + v / 2147483648 % 2 * 4096) 4096 8192)])) := by rw [immB v hv, mvi_15_5_0, mvi_20_5_0]; exact Eq.refl _
  go_enter Try.func121, Try.ntmps121
  go_wp2_with (first
    | (go_at_call 110; refine (takeRd_any _ _ hv).mono ?_; rintro e w' ⟨rfl, rfl⟩)
    | (go_at_call 118; refine (takeRs1_any _ _ hv).mono ?_; rintro e w' ⟨rfl, rfl⟩)
    | (go_at_call 123; refine (takeRs2_any _ _ hv).mono ?_; rintro e w' ⟨rfl, rfl⟩)
    | (go_at_call 115; refine (sx_any _ _ _ (by first | exact mvi_bd _ _ _ _ | exact or_bd _ _) (by omega)).mono ?_; rintro e w' ⟨rfl, rfl⟩)
    | (go_at_call 111; refine (move_any _ _ _ _ _ hv (by omega) (by omega) (by omega)).mono ?_; rintro e w' ⟨rfl, rfl⟩))
  refine bodyPost_ret (v := .agg #[.int .i64 (0), .int .i64 (0), .int .i64 (mvi v 15 5 0), .int .i64 (mvi v 20 5 0), .int .i64 (sxi (bits .or .u32 (bits .or .u32 (bits .or .u32 (mvi v 7 1 11) (mvi v 8 4 1)) (mvi v 25 6 5)) (mvi v 31 1 12)) 13)]) (by simp [results, Try.results121, go_sem]) rfl ⟨E.out, ?_⟩
  first | exact (Below.refl _ _).alloc (Nat.le_refl _) _ | exact ((Below.refl _ _).alloc (Nat.le_refl _) _).alloc (by simp) _
theorem immU (v : Int) (hv : 0 ≤ v ∧ v ≤ 4294967295) : mvi v 12 20 0 = v / 4096 % 1048576 := by
  simp only [mvi_12_20_0]
set_option maxHeartbeats 1000000 in
theorem instU (o v : Int) (w : World) (hv : 0 ≤ v ∧ v ≤ 4294967295) :
    Calls Try.prog 108 #[.agg #[.int .u32 o], .int .u32 v] w fun e w' => e = .returned (.agg #[.int .i64 (0), .int .i64 (v / 128 % 32), .int .i64 (0), .int .i64 (0), .int .i64 (v / 4096 % 1048576)]) ∧ Below w.heap.size w w' := by
  have hbm := mvi_bd v 12 20 0
  have E : Hid ((Ending.returned (.agg #[.int .i64 (0), .int .i64 (mvi v 7 5 0), .int .i64 (0), .int .i64 (0), .int .i64 (mvi v 12 20 0)]) : Ending) = .returned (.agg #[.int .i64 (0), .int .i64 (v / 128 % 32), .int .i64 (0), .int .i64 (0), .int .i64 (v / 4096 % 1048576)])) := by rw [immU v hv, mvi_7_5_0]; exact Eq.refl _
  go_enter Try.func108, Try.ntmps108
  go_wp2_with (first
    | (go_at_call 110; refine (takeRd_any _ _ hv).mono ?_; rintro e w' ⟨rfl, rfl⟩)
    | (go_at_call 118; refine (takeRs1_any _ _ hv).mono ?_; rintro e w' ⟨rfl, rfl⟩)
    | (go_at_call 123; refine (takeRs2_any _ _ hv).mono ?_; rintro e w' ⟨rfl, rfl⟩)
    | (go_at_call 115; refine (sx_any _ _ _ (by first | exact mvi_bd _ _ _ _ | exact or_bd _ _) (by omega)).mono ?_; rintro e w' ⟨rfl, rfl⟩)
    | (go_at_call 111; refine (move_any _ _ _ _ _ hv (by omega) (by omega) (by omega)).mono ?_; rintro e w' ⟨rfl, rfl⟩))
  refine bodyPost_ret (v := .agg #[.int .i64 (0), .int .i64 (mvi v 7 5 0), .int .i64 (0), .int .i64 (0), .int .i64 (mvi v 12 20 0)]) (by simp [results, Try.results108, go_sem]) rfl ⟨E.out, ?_⟩
  first | exact (Below.refl _ _).alloc (Nat.le_refl _) _ | exact ((Below.refl _ _).alloc (Nat.le_refl _) _).alloc (by simp) _
theorem immJ (v : Int) (hv : 0 ≤ v ∧ v ≤ 4294967295) : sxi (bits .or .u32 (bits .or .u32 (bits .or .u32 (mvi v 12 8 12) (mvi v 20 1 11)) (mvi v 21 10 1)) (mvi v 31 1 20)) 21 = sg (v / 2097152 % 1024 * 2 + v / 1048576 % 2 * 2048 + v / 4096 % 256 * 4096 + v / 2147483648 % 2 * 1048576) 1048576 2097152 := by
  simp only [mvi_12_8_12, mvi_20_1_11, mvi_21_10_1, mvi_31_1_20]
  rw [orIJ _ _ _ _ (by omega) (by omega) (by omega) (by omega)]
  rw [sxi_21 _ (by omega)]
  rfl
set_option maxHeartbeats 1000000 in
theorem instJ (o v : Int) (w : World) (hv : 0 ≤ v ∧ v ≤ 4294967295) :
    Calls Try.prog 113 #[.agg #[.int .u32 o], .int .u32 v] w fun e w' => e = .returned (.agg #[.int .i64 (0), .int .i64 (v / 128 % 32), .int .i64 (0), .int .i64 (0), .int .i64 (sg (v / 2097152 % 1024 * 2 + v / 1048576 % 2 * 2048 + v / 4096 % 256 * 4096 + v / 2147483648 % 2 * 1048576) 1048576 2097152)]) ∧ Below w.heap.size w w' := by
  have E : Hid ((Ending.returned (.agg #[.int .i64 (0), .int .i64 (mvi v 7 5 0), .int .i64 (0), .int .i64 (0), .int .i64 (sxi (bits .or .u32 (bits .or .u32 (bits .or .u32 (mvi v 12 8 12) (mvi v 20 1 11)) (mvi v 21 10 1)) (mvi v 31 1 20)) 21)]) : Ending) = .returned (.agg #[.int .i64 (0), .int .i64 (v / 128 % 32), .int .i64 (0), .int .i64 (0), .int .i64 (sg (v / 2097152 % 1024 * 2 + v / 1048576 % 2 * 2048 + v / 4096 % 256 * 4096 + v / 2147483648 % 2 * 1048576) 1048576 2097152)])) := by rw [immJ v hv, mvi_7_5_0]; exact Eq.refl _
  go_enter Try.func113, Try.ntmps113
  go_wp2_with (first
    | (go_at_call 110; refine (takeRd_any _ _ hv).mono ?_; rintro e w' ⟨rfl, rfl⟩)
    | (go_at_call 118; refine (takeRs1_any _ _ hv).mono ?_; rintro e w' ⟨rfl, rfl⟩)
    | (go_at_call 123; refine (takeRs2_any _ _ hv).mono ?_; rintro e w' ⟨rfl, rfl⟩)
    | (go_at_call 115; refine (sx_any _ _ _ (by first | exact mvi_bd _ _ _ _ | exact or_bd _ _) (by omega)).mono ?_; rintro e w' ⟨rfl, rfl⟩)
    | (go_at_call 111; refine (move_any _ _ _ _ _ hv (by omega) (by omega) (by omega)).mono ?_; rintro e w' ⟨rfl, rfl⟩))
  refine bodyPost_ret (v := .agg #[.int .i64 (0), .int .i64 (mvi v 7 5 0), .int .i64 (0), .int .i64 (0), .int .i64 (sxi (bits .or .u32 (bits .or .u32 (bits .or .u32 (mvi v 12 8 12) (mvi v 20 1 11)) (mvi v 21 10 1)) (mvi v 31 1 20)) 21)]) (by simp [results, Try.results113, go_sem]) rfl ⟨E.out, ?_⟩
  first | exact (Below.refl _ _).alloc (Nat.le_refl _) _ | exact ((Below.refl _ _).alloc (Nat.le_refl _) _).alloc (by simp) _
set_option maxHeartbeats 1000000 in
theorem instE (o v : Int) (w : World) (hv : 0 ≤ v ∧ v ≤ 4294967295) :
    Calls Try.prog 131 #[.agg #[.int .u32 o], .int .u32 v] w fun e w' => e = .returned (.agg #[.int .i64 (0), .int .i64 (0), .int .i64 (0), .int .i64 (0), .int .i64 (0)]) ∧ Below w.heap.size w w' := by
  have E : Hid ((Ending.returned (.agg #[.int .i64 (0), .int .i64 (0), .int .i64 (0), .int .i64 (0), .int .i64 (0)]) : Ending) = .returned (.agg #[.int .i64 (0), .int .i64 (0), .int .i64 (0), .int .i64 (0), .int .i64 (0)])) := by exact Eq.refl _
  go_enter Try.func131, Try.ntmps131
  go_wp2_with (first
    | (go_at_call 110; refine (takeRd_any _ _ hv).mono ?_; rintro e w' ⟨rfl, rfl⟩)
    | (go_at_call 118; refine (takeRs1_any _ _ hv).mono ?_; rintro e w' ⟨rfl, rfl⟩)
    | (go_at_call 123; refine (takeRs2_any _ _ hv).mono ?_; rintro e w' ⟨rfl, rfl⟩)
    | (go_at_call 115; refine (sx_any _ _ _ (by first | exact mvi_bd _ _ _ _ | exact or_bd _ _) (by omega)).mono ?_; rintro e w' ⟨rfl, rfl⟩)
    | (go_at_call 111; refine (move_any _ _ _ _ _ hv (by omega) (by omega) (by omega)).mono ?_; rintro e w' ⟨rfl, rfl⟩))
  refine bodyPost_ret (v := .agg #[.int .i64 (0), .int .i64 (0), .int .i64 (0), .int .i64 (0), .int .i64 (0)]) (by simp [results, Try.results131, go_sem]) rfl ⟨rfl, ?_⟩
  first | exact (Below.refl _ _).alloc (Nat.le_refl _) _ | exact ((Below.refl _ _).alloc (Nat.le_refl _) _).alloc (by simp) _
end Go.Proofs.Ytabjcodpagjbjaa
