import Derived.Test.YtabjcodpagjbjaaM24
import Derived.Test.YtabjcodpagjbjaaM27
import Derived.Test.YtabjcodpagjbjaaM09
namespace Go.Proofs.Ytabjcodpagjbjaa
open Go.RowKit
set_option linter.unusedVariables false
set_option linter.unusedSimpArgs false
end Go.Proofs.Ytabjcodpagjbjaa

namespace Go.Proofs.Ytabjcodpagjbjaa
open Go.RowKit
set_option linter.unusedVariables false
set_option linter.unusedSimpArgs false
set_option maxRecDepth 100000 in
set_option maxHeartbeats 2000000 in
theorem guessR (op v : Int) (w : World) (h : 21 ≤ op ∧ op ≤ 33) (hv : 0 ≤ v ∧ v ≤ 4294967295) :
    Calls Try.prog 78 #[.int .u32 v, .int .i64 op] w fun e w' => e = .returned (.agg #[.int .i64 op, .int .i64 (v / 128 % 32), .int .i64 (v / 32768 % 32), .int .i64 (v / 1048576 % 32), .int .i64 (0)]) ∧ Below w.heap.size w w' := by
  have HH : Hid _ := h
  have HE : Hid ((Ending.returned (.agg #[.int .i64 op, .int .i64 (v / 128 % 32), .int .i64 (v / 32768 % 32), .int .i64 (v / 1048576 % 32), .int .i64 (0)]) : Ending) = .returned (.agg #[.int .i64 op, .int .i64 (v / 128 % 32), .int .i64 (v / 32768 % 32), .int .i64 (v / 1048576 % 32), .int .i64 (0)])) := rfl
  have m0 := mvi_7_5_0 v
  have m1 := mvi_15_5_0 v
  have m2 := mvi_20_5_0 v
  clear h
  go_enter Try.func78, Try.ntmps78
  go_wp2_with (first
    | (go_at_call 53; refine (shapeR _ _ HH.out).mono ?_; rintro e w' ⟨rfl, rfl⟩)
    | (go_at_call 89; refine (part_any _ _ _ _ _ hv (by decide)).mono ?_; rintro e w' ⟨rfl, rfl⟩)
    | (go_at_call 90; refine (signed_any _ _ _ (by omega) (by omega)).mono ?_; rintro e w' ⟨rfl, rfl⟩))
  refine bodyPost_ret (v := .agg #[.int .i64 op, .int .i64 (v / 128 % 32), .int .i64 (v / 32768 % 32), .int .i64 (v / 1048576 % 32), .int .i64 (0)]) (by simp [results, Try.results78, go_sem, m0, m1, m2]) rfl ⟨rfl, ?_⟩
  exact ((Below.refl _ _).alloc (Nat.le_refl _) _).alloc (by simp) _
theorem gvR (v : Int) (hv : 0 ≤ v ∧ v ≤ 4294967295) : vR (v / 128 % 32) (v / 32768 % 32) (v / 1048576 % 32) (0) = true := by
  unfold vR
  rw [decide_eq_true_eq]
  omega
set_option maxRecDepth 100000 in
set_option maxHeartbeats 2000000 in
theorem guessI (op v : Int) (w : World) (h : op = 3 ∨ op = 10 ∨ (12 ≤ op ∧ op ≤ 17)) (hv : 0 ≤ v ∧ v ≤ 4294967295) :
    Calls Try.prog 78 #[.int .u32 v, .int .i64 op] w fun e w' => e = .returned (.agg #[.int .i64 op, .int .i64 (v / 128 % 32), .int .i64 (v / 32768 % 32), .int .i64 (0), .int .i64 (sg (v / 1048576 % 4096) 2048 4096)]) ∧ Below w.heap.size w w' := by
  have HH : Hid _ := h
  have HE : Hid ((Ending.returned (.agg #[.int .i64 op, .int .i64 (v / 128 % 32), .int .i64 (v / 32768 % 32), .int .i64 (0), .int .i64 (sg (v / 1048576 % 4096) 2048 4096)]) : Ending) = .returned (.agg #[.int .i64 op, .int .i64 (v / 128 % 32), .int .i64 (v / 32768 % 32), .int .i64 (0), .int .i64 (sg (v / 1048576 % 4096) 2048 4096)])) := rfl
  have m0 := mvi_7_5_0 v
  have m1 := mvi_15_5_0 v
  have m2 := mvi_20_12_0 v
  clear h
  go_enter Try.func78, Try.ntmps78
  go_wp2_with (first
    | (go_at_call 53; refine (shapeI _ _ HH.out).mono ?_; rintro e w' ⟨rfl, rfl⟩)
    | (go_at_call 89; refine (part_any _ _ _ _ _ hv (by decide)).mono ?_; rintro e w' ⟨rfl, rfl⟩)
    | (go_at_call 90; refine (signed_any _ _ _ (by omega) (by omega)).mono ?_; rintro e w' ⟨rfl, rfl⟩))
  refine bodyPost_ret (v := .agg #[.int .i64 op, .int .i64 (v / 128 % 32), .int .i64 (v / 32768 % 32), .int .i64 (0), .int .i64 (sg (v / 1048576 % 4096) 2048 4096)]) (by simp [results, Try.results78, go_sem, m0, m1, m2]) rfl ⟨rfl, ?_⟩
  exact ((Below.refl _ _).alloc (Nat.le_refl _) _).alloc (by simp) _
theorem gvI (v : Int) (hv : 0 ≤ v ∧ v ≤ 4294967295) : vI (v / 128 % 32) (v / 32768 % 32) (0) (sg (v / 1048576 % 4096) 2048 4096) = true := by
  unfold vI
  rw [decide_eq_true_eq]
  have hs := sg_cases (v / 1048576 % 4096) 2048 4096
  generalize sg (v / 1048576 % 4096) 2048 4096 = z at *
  omega
set_option maxRecDepth 100000 in
set_option maxHeartbeats 2000000 in
theorem guessH (op v : Int) (w : World) (h : 18 ≤ op ∧ op ≤ 20) (hv : 0 ≤ v ∧ v ≤ 4294967295) :
    Calls Try.prog 78 #[.int .u32 v, .int .i64 op] w fun e w' => e = .returned (.agg #[.int .i64 op, .int .i64 (v / 128 % 32), .int .i64 (v / 32768 % 32), .int .i64 (0), .int .i64 (v / 1048576 % 32)]) ∧ Below w.heap.size w w' := by
  have HH : Hid _ := h
  have HE : Hid ((Ending.returned (.agg #[.int .i64 op, .int .i64 (v / 128 % 32), .int .i64 (v / 32768 % 32), .int .i64 (0), .int .i64 (v / 1048576 % 32)]) : Ending) = .returned (.agg #[.int .i64 op, .int .i64 (v / 128 % 32), .int .i64 (v / 32768 % 32), .int .i64 (0), .int .i64 (v / 1048576 % 32)])) := rfl
  have m0 := mvi_7_5_0 v
  have m1 := mvi_15_5_0 v
  have m2 := mvi_20_5_0 v
  clear h
  go_enter Try.func78, Try.ntmps78
  go_wp2_with (first
    | (go_at_call 53; refine (shapeH _ _ HH.out).mono ?_; rintro e w' ⟨rfl, rfl⟩)
    | (go_at_call 89; refine (part_any _ _ _ _ _ hv (by decide)).mono ?_; rintro e w' ⟨rfl, rfl⟩)
    | (go_at_call 90; refine (signed_any _ _ _ (by omega) (by omega)).mono ?_; rintro e w' ⟨rfl, rfl⟩))
  refine bodyPost_ret (v := .agg #[.int .i64 op, .int .i64 (v / 128 % 32), .int .i64 (v / 32768 % 32), .int .i64 (0), .int .i64 (v / 1048576 % 32)]) (by simp [results, Try.results78, go_sem, m0, m1, m2]) rfl ⟨rfl, ?_⟩
  exact ((Below.refl _ _).alloc (Nat.le_refl _) _).alloc (by simp) _
theorem gvH (v : Int) (hv : 0 ≤ v ∧ v ≤ 4294967295) : vH (v / 128 % 32) (v / 32768 % 32) (0) (v / 1048576 % 32) = true := by
  unfold vH
  rw [decide_eq_true_eq]
  omega
set_option maxRecDepth 100000 in
set_option maxHeartbeats 2000000 in
theorem guessS (op v : Int) (w : World) (h : op = 11) (hv : 0 ≤ v ∧ v ≤ 4294967295) :
    Calls Try.prog 78 #[.int .u32 v, .int .i64 op] w fun e w' => e = .returned (.agg #[.int .i64 op, .int .i64 (0), .int .i64 (v / 32768 % 32), .int .i64 (v / 1048576 % 32), .int .i64 (sg (v / 128 % 32 + v / 33554432 % 128 * 32) 2048 4096)]) ∧ Below w.heap.size w w' := by
  have HH : Hid _ := h
  have HE : Hid ((Ending.returned (.agg #[.int .i64 op, .int .i64 (0), .int .i64 (v / 32768 % 32), .int .i64 (v / 1048576 % 32), .int .i64 (sg (v / 128 % 32 + v / 33554432 % 128 * 32) 2048 4096)]) : Ending) = .returned (.agg #[.int .i64 op, .int .i64 (0), .int .i64 (v / 32768 % 32), .int .i64 (v / 1048576 % 32), .int .i64 (sg (v / 128 % 32 + v / 33554432 % 128 * 32) 2048 4096)])) := rfl
  have m0 := mvi_15_5_0 v
  have m1 := mvi_20_5_0 v
  have m2 := mvi_7_5_0 v
  have m3 := mvi_25_7_5 v
  clear h
  go_enter Try.func78, Try.ntmps78
  go_wp2_with (first
    | (go_at_call 53; refine (shapeS _ _ HH.out).mono ?_; rintro e w' ⟨rfl, rfl⟩)
    | (go_at_call 89; refine (part_any _ _ _ _ _ hv (by decide)).mono ?_; rintro e w' ⟨rfl, rfl⟩)
    | (go_at_call 90; refine (signed_any _ _ _ (by omega) (by omega)).mono ?_; rintro e w' ⟨rfl, rfl⟩))
  refine bodyPost_ret (v := .agg #[.int .i64 op, .int .i64 (0), .int .i64 (v / 32768 % 32), .int .i64 (v / 1048576 % 32), .int .i64 (sg (v / 128 % 32 + v / 33554432 % 128 * 32) 2048 4096)]) (by simp [results, Try.results78, go_sem, m0, m1, m2, m3]) rfl ⟨rfl, ?_⟩
  exact ((Below.refl _ _).alloc (Nat.le_refl _) _).alloc (by simp) _
theorem gvS (v : Int) (hv : 0 ≤ v ∧ v ≤ 4294967295) : vS (0) (v / 32768 % 32) (v / 1048576 % 32) (sg (v / 128 % 32 + v / 33554432 % 128 * 32) 2048 4096) = true := by
  unfold vS
  rw [decide_eq_true_eq]
  have hs := sg_cases (v / 128 % 32 + v / 33554432 % 128 * 32) 2048 4096
  generalize sg (v / 128 % 32 + v / 33554432 % 128 * 32) 2048 4096 = z at *
  omega
set_option maxRecDepth 100000 in
set_option maxHeartbeats 2000000 in
theorem guessB (op v : Int) (w : World) (h : 4 ≤ op ∧ op ≤ 9) (hv : 0 ≤ v ∧ v ≤ 4294967295) :
    Calls Try.prog 78 #[.int .u32 v, .int .i64 op] w fun e w' => e = .returned (.agg #[.int .i64 op, .int .i64 (0), .int .i64 (v / 32768 % 32), .int .i64 (v / 1048576 % 32), .int .i64 (sg (v / 256 % 16 * 2 + v / 33554432 % 64 * 32 + v / 128 % 2 * 2048 + v / 2147483648 % 2 * 4096) 4096 8192)]) ∧ Below w.heap.size w w' := by
  have HH : Hid _ := h
  have HE : Hid ((Ending.returned (.agg #[.int .i64 op, .int .i64 (0), .int .i64 (v / 32768 % 32), .int .i64 (v / 1048576 % 32), .int .i64 (sg (v / 128 % 2 * 2048 + v / 256 % 16 * 2 + v / 33554432 % 64 * 32 + v / 2147483648 % 2 * 4096) 4096 8192)]) : Ending) = .returned (.agg #[.int .i64 op, .int .i64 (0), .int .i64 (v / 32768 % 32), .int .i64 (v / 1048576 % 32), .int .i64 (sg (v / 256 % 16 * 2 + v / 33554432 % 64 * 32 + v / 128 % 2 * 2048 + v / 2147483648 % 2 * 4096) 4096 8192)])) := congrArg (fun z => Ending.returned (.agg #[.int .i64 op, .int .i64 (0), .int .i64 (v / 32768 % 32), .int .i64 (v / 1048576 % 32), .int .i64 (sg z 4096 8192)])) (by omega)
  have m0 := mvi_15_5_0 v
  have m1 := mvi_20_5_0 v
  have m2 := mvi_7_1_11 v
  have m3 := mvi_8_4_1 v
  have m4 := mvi_25_6_5 v
  have m5 := mvi_31_1_12 v
  clear h
  go_enter Try.func78, Try.ntmps78
  go_wp2_with (first
    | (go_at_call 53; refine (shapeB _ _ HH.out).mono ?_; rintro e w' ⟨rfl, rfl⟩)
    | (go_at_call 89; refine (part_any _ _ _ _ _ hv (by decide)).mono ?_; rintro e w' ⟨rfl, rfl⟩)
    | (go_at_call 90; refine (signed_any _ _ _ (by omega) (by omega)).mono ?_; rintro e w' ⟨rfl, rfl⟩))
  refine bodyPost_ret (v := .agg #[.int .i64 op, .int .i64 (0), .int .i64 (v / 32768 % 32), .int .i64 (v / 1048576 % 32), .int .i64 (sg (v / 128 % 2 * 2048 + v / 256 % 16 * 2 + v / 33554432 % 64 * 32 + v / 2147483648 % 2 * 4096) 4096 8192)]) (by simp [results, Try.results78, go_sem, m0, m1, m2, m3, m4, m5]) rfl ⟨HE.out, ?_⟩
  exact ((Below.refl _ _).alloc (Nat.le_refl _) _).alloc (by simp) _
theorem gvB (v : Int) (hv : 0 ≤ v ∧ v ≤ 4294967295) : vB (0) (v / 32768 % 32) (v / 1048576 % 32) (sg (v / 256 % 16 * 2 + v / 33554432 % 64 * 32 + v / 128 % 2 * 2048 + v / 2147483648 % 2 * 4096) 4096 8192) = true := by
  unfold vB
  rw [decide_eq_true_eq]
  have hs := sg_cases (v / 256 % 16 * 2 + v / 33554432 % 64 * 32 + v / 128 % 2 * 2048 + v / 2147483648 % 2 * 4096) 4096 8192
  generalize sg (v / 256 % 16 * 2 + v / 33554432 % 64 * 32 + v / 128 % 2 * 2048 + v / 2147483648 % 2 * 4096) 4096 8192 = z at *
  omega
set_option maxRecDepth 100000 in
set_option maxHeartbeats 2000000 in
theorem guessU (op v : Int) (w : World) (h : op = 1) (hv : 0 ≤ v ∧ v ≤ 4294967295) :
    Calls Try.prog 78 #[.int .u32 v, .int .i64 op] w fun e w' => e = .returned (.agg #[.int .i64 op, .int .i64 (v / 128 % 32), .int .i64 (0), .int .i64 (0), .int .i64 (v / 4096 % 1048576)]) ∧ Below w.heap.size w w' := by
  have HH : Hid _ := h
  have HE : Hid ((Ending.returned (.agg #[.int .i64 op, .int .i64 (v / 128 % 32), .int .i64 (0), .int .i64 (0), .int .i64 (v / 4096 % 1048576)]) : Ending) = .returned (.agg #[.int .i64 op, .int .i64 (v / 128 % 32), .int .i64 (0), .int .i64 (0), .int .i64 (v / 4096 % 1048576)])) := rfl
  have m0 := mvi_7_5_0 v
  have m1 := mvi_12_20_0 v
  clear h
  go_enter Try.func78, Try.ntmps78
  go_wp2_with (first
    | (go_at_call 53; refine (shapeU _ _ HH.out).mono ?_; rintro e w' ⟨rfl, rfl⟩)
    | (go_at_call 89; refine (part_any _ _ _ _ _ hv (by decide)).mono ?_; rintro e w' ⟨rfl, rfl⟩)
    | (go_at_call 90; refine (signed_any _ _ _ (by omega) (by omega)).mono ?_; rintro e w' ⟨rfl, rfl⟩))
  refine bodyPost_ret (v := .agg #[.int .i64 op, .int .i64 (v / 128 % 32), .int .i64 (0), .int .i64 (0), .int .i64 (v / 4096 % 1048576)]) (by simp [results, Try.results78, go_sem, m0, m1]) rfl ⟨rfl, ?_⟩
  exact ((Below.refl _ _).alloc (Nat.le_refl _) _).alloc (by simp) _
theorem gvU (v : Int) (hv : 0 ≤ v ∧ v ≤ 4294967295) : vU (v / 128 % 32) (0) (0) (v / 4096 % 1048576) = true := by
  unfold vU
  rw [decide_eq_true_eq]
  omega
set_option maxRecDepth 100000 in
set_option maxHeartbeats 2000000 in
theorem guessJ (op v : Int) (w : World) (h : op = 2) (hv : 0 ≤ v ∧ v ≤ 4294967295) :
    Calls Try.prog 78 #[.int .u32 v, .int .i64 op] w fun e w' => e = .returned (.agg #[.int .i64 op, .int .i64 (v / 128 % 32), .int .i64 (0), .int .i64 (0), .int .i64 (sg (v / 2097152 % 1024 * 2 + v / 1048576 % 2 * 2048 + v / 4096 % 256 * 4096 + v / 2147483648 % 2 * 1048576) 1048576 2097152)]) ∧ Below w.heap.size w w' := by
  have HH : Hid _ := h
  have HE : Hid ((Ending.returned (.agg #[.int .i64 op, .int .i64 (v / 128 % 32), .int .i64 (0), .int .i64 (0), .int .i64 (sg (v / 4096 % 256 * 4096 + v / 1048576 % 2 * 2048 + v / 2097152 % 1024 * 2 + v / 2147483648 % 2 * 1048576) 1048576 2097152)]) : Ending) = .returned (.agg #[.int .i64 op, .int .i64 (v / 128 % 32), .int .i64 (0), .int .i64 (0), .int .i64 (sg (v / 2097152 % 1024 * 2 + v / 1048576 % 2 * 2048 + v / 4096 % 256 * 4096 + v / 2147483648 % 2 * 1048576) 1048576 2097152)])) := congrArg (fun z => Ending.returned (.agg #[.int .i64 op, .int .i64 (v / 128 % 32), .int .i64 (0), .int .i64 (0), .int .i64 (sg z 1048576 2097152)])) (by omega)
  have m0 := mvi_7_5_0 v
  have m1 := mvi_12_8_12 v
  have m2 := mvi_20_1_11 v
  have m3 := mvi_21_10_1 v
  have m4 := mvi_31_1_20 v
  clear h
  go_enter Try.func78, Try.ntmps78
  go_wp2_with (first
    | (go_at_call 53; refine (shapeJ _ _ HH.out).mono ?_; rintro e w' ⟨rfl, rfl⟩)
    | (go_at_call 89; refine (part_any _ _ _ _ _ hv (by decide)).mono ?_; rintro e w' ⟨rfl, rfl⟩)
    | (go_at_call 90; refine (signed_any _ _ _ (by omega) (by omega)).mono ?_; rintro e w' ⟨rfl, rfl⟩))
  refine bodyPost_ret (v := .agg #[.int .i64 op, .int .i64 (v / 128 % 32), .int .i64 (0), .int .i64 (0), .int .i64 (sg (v / 4096 % 256 * 4096 + v / 1048576 % 2 * 2048 + v / 2097152 % 1024 * 2 + v / 2147483648 % 2 * 1048576) 1048576 2097152)]) (by simp [results, Try.results78, go_sem, m0, m1, m2, m3, m4]) rfl ⟨HE.out, ?_⟩
  exact ((Below.refl _ _).alloc (Nat.le_refl _) _).alloc (by simp) _
theorem gvJ (v : Int) (hv : 0 ≤ v ∧ v ≤ 4294967295) : vJ (v / 128 % 32) (0) (0) (sg (v / 2097152 % 1024 * 2 + v / 1048576 % 2 * 2048 + v / 4096 % 256 * 4096 + v / 2147483648 % 2 * 1048576) 1048576 2097152) = true := by
  unfold vJ
  rw [decide_eq_true_eq]
  have hs := sg_cases (v / 2097152 % 1024 * 2 + v / 1048576 % 2 * 2048 + v / 4096 % 256 * 4096 + v / 2147483648 % 2 * 1048576) 1048576 2097152
  generalize sg (v / 2097152 % 1024 * 2 + v / 1048576 % 2 * 2048 + v / 4096 % 256 * 4096 + v / 2147483648 % 2 * 1048576) 1048576 2097152 = z at *
  omega
set_option maxRecDepth 100000 in
set_option maxHeartbeats 2000000 in
theorem guessE (op v : Int) (w : World) (h : op = 34) (hv : 0 ≤ v ∧ v ≤ 4294967295) :
    Calls Try.prog 78 #[.int .u32 v, .int .i64 op] w fun e w' => e = .returned (.agg #[.int .i64 op, .int .i64 (0), .int .i64 (0), .int .i64 (0), .int .i64 (0)]) ∧ Below w.heap.size w w' := by
  have HH : Hid _ := h
  have HE : Hid ((Ending.returned (.agg #[.int .i64 op, .int .i64 (0), .int .i64 (0), .int .i64 (0), .int .i64 (0)]) : Ending) = .returned (.agg #[.int .i64 op, .int .i64 (0), .int .i64 (0), .int .i64 (0), .int .i64 (0)])) := rfl
  clear h
  go_enter Try.func78, Try.ntmps78
  go_wp2_with (first
    | (go_at_call 53; refine (shapeE _ _ HH.out).mono ?_; rintro e w' ⟨rfl, rfl⟩)
    | (go_at_call 89; refine (part_any _ _ _ _ _ hv (by decide)).mono ?_; rintro e w' ⟨rfl, rfl⟩)
    | (go_at_call 90; refine (signed_any _ _ _ (by omega) (by omega)).mono ?_; rintro e w' ⟨rfl, rfl⟩))
  refine bodyPost_ret (v := .agg #[.int .i64 op, .int .i64 (0), .int .i64 (0), .int .i64 (0), .int .i64 (0)]) (by simp [results, Try.results78, go_sem]) rfl ⟨rfl, ?_⟩
  exact ((Below.refl _ _).alloc (Nat.le_refl _) _).alloc (by simp) _
theorem gvE (v : Int) (hv : 0 ≤ v ∧ v ≤ 4294967295) : vE (0) (0) (0) (0) = true := by
  unfold vE
  rw [decide_eq_true_eq]
  omega
end Go.Proofs.Ytabjcodpagjbjaa

namespace Go.Proofs.Ytabjcodpagjbjaa
open Go.RowKit
set_option linter.unusedVariables false
set_option linter.unusedSimpArgs false
/-- What both programs find when they try the word v as one of op: the fields, and the word of these. -/
def Fit (op rd s1 s2 R : Int) : Prop := 0 < R ∧ R % 128 = oc op ∧ (0 ≤ rd ∧ rd < 32) ∧ (0 ≤ s1 ∧ s1 < 32) ∧ (0 ≤ s2 ∧ s2 < 32) ∧ (4 ≤ op ∧ op ≤ 9 → rd = 0)
/-- What a look at a word as one of an op gives. -/
def TryIs (op v rd s1 s2 im R : Int) (T : TypeId) (cv : Value) (fw fi : Nat) : Prop :=
  tabA[op.toNat]? = some (.iface T cv) ∧
  (∀ W : World, (method 244 T cv "loop.example/s01725/impl.word").run Try.prog W = .ok (fw, cv) W) ∧
  (∀ W : World, (method 244 T cv "loop.example/s01725/impl.inst").run Try.prog W = .ok (fi, cv) W) ∧
  (∀ W : World, Calls Try.prog fi #[cv, .int .u32 v] W fun e w' => e = .returned (.agg #[.int .i64 0, .int .i64 rd, .int .i64 s1, .int .i64 s2, .int .i64 im]) ∧ Below W.heap.size W w') ∧
  (∀ W : World, Calls Try.prog fw #[cv, .agg #[.int .i64 0, .int .i64 rd, .int .i64 s1, .int .i64 s2, .int .i64 im]] W fun e w' => e = .returned (.int .u32 R) ∧ Below W.heap.size W w') ∧
  (∀ W : World, Calls Try.prog 78 #[.int .u32 v, .int .i64 op] W fun e w' => e = .returned (.agg #[.int .i64 op, .int .i64 rd, .int .i64 s1, .int .i64 s2, .int .i64 im]) ∧ Below W.heap.size W w') ∧
  (∀ W : World, Calls Try.prog 55 #[.agg #[.int .i64 op, .int .i64 rd, .int .i64 s1, .int .i64 s2, .int .i64 im]] W fun e w' => e = .returned (.int .u32 R) ∧ Below W.heap.size W w') ∧ Fit op rd s1 s2 R ∧
  (∀ (x y : Value) (W : World), (callFunc fw #[x, y]).run Try.prog W = .ok (.enter fw #[x, y]) W) ∧ (∀ (x y : Value) (W : World), (callFunc fi #[x, y]).run Try.prog W = .ok (.enter fi #[x, y]) W)
theorem cfwU (x y : Value) (W : World) : (callFunc 109 #[x, y]).run Try.prog W = .ok (.enter 109 #[x, y]) W := by kernel_rfl
theorem cfiU (x y : Value) (W : World) : (callFunc 108 #[x, y]).run Try.prog W = .ok (.enter 108 #[x, y]) W := by kernel_rfl
theorem tryU (op v : Int) (h : op = 1) (hv : 0 ≤ v ∧ v ≤ 4294967295) : ∃ rd s1 s2 im R T cv fw fi, TryIs op v rd s1 s2 im R T cv fw fi := by
  have hp := oc_pos op (by omega)
  have o2 := f3_bd op
  have o3 := f7_bd op
  refine ⟨_, _, _, _, _, _, _, _, _, tabU op h, fun W => mwU _ W, fun W => miU _ W, fun W => instU _ v W hv, fun W => wordU _ _ _ _ _ _ W (oc_bd op), fun W => guessU op v W h hv, fun W => encU op _ _ _ _ W h (gvU v hv), ?_, cfwU, cfiU⟩
  generalize v / 4096 % 1048576 = z at *
  have ob := oc_bd op
  refine ⟨by omega, by omega, by omega, by omega, by omega, by omega⟩
theorem cfwJ (x y : Value) (W : World) : (callFunc 114 #[x, y]).run Try.prog W = .ok (.enter 114 #[x, y]) W := by kernel_rfl
theorem cfiJ (x y : Value) (W : World) : (callFunc 113 #[x, y]).run Try.prog W = .ok (.enter 113 #[x, y]) W := by kernel_rfl
theorem tryJ (op v : Int) (h : op = 2) (hv : 0 ≤ v ∧ v ≤ 4294967295) : ∃ rd s1 s2 im R T cv fw fi, TryIs op v rd s1 s2 im R T cv fw fi := by
  have hp := oc_pos op (by omega)
  have o2 := f3_bd op
  have o3 := f7_bd op
  refine ⟨_, _, _, _, _, _, _, _, _, tabJ op h, fun W => mwJ _ W, fun W => miJ _ W, fun W => instJ _ v W hv, fun W => wordJ _ _ _ _ _ _ W (oc_bd op), fun W => guessJ op v W h hv, fun W => encJ op _ _ _ _ W h (gvJ v hv), ?_, cfwJ, cfiJ⟩
  generalize sg (v / 2097152 % 1024 * 2 + v / 1048576 % 2 * 2048 + v / 4096 % 256 * 4096 + v / 2147483648 % 2 * 1048576) 1048576 2097152 = z at *
  have ob := oc_bd op
  refine ⟨by omega, by omega, by omega, by omega, by omega, by omega⟩
theorem cfwB (x y : Value) (W : World) : (callFunc 122 #[x, y]).run Try.prog W = .ok (.enter 122 #[x, y]) W := by kernel_rfl
theorem cfiB (x y : Value) (W : World) : (callFunc 121 #[x, y]).run Try.prog W = .ok (.enter 121 #[x, y]) W := by kernel_rfl
theorem tryB (op v : Int) (h : 4 ≤ op ∧ op ≤ 9) (hv : 0 ≤ v ∧ v ≤ 4294967295) : ∃ rd s1 s2 im R T cv fw fi, TryIs op v rd s1 s2 im R T cv fw fi := by
  have hp := oc_pos op (by omega)
  have o2 := f3_bd op
  have o3 := f7_bd op
  refine ⟨_, _, _, _, _, _, _, _, _, tabB op h, fun W => mwB _ _ W, fun W => miB _ _ W, fun W => instB _ _ v W hv, fun W => wordB _ _ _ _ _ _ _ W (oc_bd op) (f3_bd op), fun W => guessB op v W h hv, fun W => encB op _ _ _ _ W h (gvB v hv), ?_, cfwB, cfiB⟩
  generalize sg (v / 256 % 16 * 2 + v / 33554432 % 64 * 32 + v / 128 % 2 * 2048 + v / 2147483648 % 2 * 4096) 4096 8192 = z at *
  have ob := oc_bd op
  refine ⟨by omega, by omega, by omega, by omega, by omega, by omega⟩
theorem cfwS (x y : Value) (W : World) : (callFunc 126 #[x, y]).run Try.prog W = .ok (.enter 126 #[x, y]) W := by kernel_rfl
theorem cfiS (x y : Value) (W : World) : (callFunc 125 #[x, y]).run Try.prog W = .ok (.enter 125 #[x, y]) W := by kernel_rfl
theorem tryS (op v : Int) (h : op = 11) (hv : 0 ≤ v ∧ v ≤ 4294967295) : ∃ rd s1 s2 im R T cv fw fi, TryIs op v rd s1 s2 im R T cv fw fi := by
  have hp := oc_pos op (by omega)
  have o2 := f3_bd op
  have o3 := f7_bd op
  refine ⟨_, _, _, _, _, _, _, _, _, tabS op h, fun W => mwS _ _ W, fun W => miS _ _ W, fun W => instS _ _ v W hv, fun W => wordS _ _ _ _ _ _ _ W (oc_bd op) (f3_bd op), fun W => guessS op v W h hv, fun W => encS op _ _ _ _ W h (gvS v hv), ?_, cfwS, cfiS⟩
  generalize sg (v / 128 % 32 + v / 33554432 % 128 * 32) 2048 4096 = z at *
  have ob := oc_bd op
  refine ⟨by omega, by omega, by omega, by omega, by omega, by omega⟩
theorem cfwH (x y : Value) (W : World) : (callFunc 128 #[x, y]).run Try.prog W = .ok (.enter 128 #[x, y]) W := by kernel_rfl
theorem cfiH (x y : Value) (W : World) : (callFunc 127 #[x, y]).run Try.prog W = .ok (.enter 127 #[x, y]) W := by kernel_rfl
theorem tryH (op v : Int) (h : 18 ≤ op ∧ op ≤ 20) (hv : 0 ≤ v ∧ v ≤ 4294967295) : ∃ rd s1 s2 im R T cv fw fi, TryIs op v rd s1 s2 im R T cv fw fi := by
  have hp := oc_pos op (by omega)
  have o2 := f3_bd op
  have o3 := f7_bd op
  refine ⟨_, _, _, _, _, _, _, _, _, tabH op h, fun W => mwH _ _ _ W, fun W => miH _ _ _ W, fun W => instH _ _ _ v W hv, fun W => wordH _ _ _ _ _ _ _ _ W (oc_bd op) (f3_bd op) (f7_bd op), fun W => guessH op v W h hv, fun W => encH op _ _ _ _ W h (gvH v hv), ?_, cfwH, cfiH⟩
  generalize v / 1048576 % 32 = z at *
  have ob := oc_bd op
  refine ⟨by omega, by omega, by omega, by omega, by omega, by omega⟩
theorem cfwR (x y : Value) (W : World) : (callFunc 130 #[x, y]).run Try.prog W = .ok (.enter 130 #[x, y]) W := by kernel_rfl
theorem cfiR (x y : Value) (W : World) : (callFunc 129 #[x, y]).run Try.prog W = .ok (.enter 129 #[x, y]) W := by kernel_rfl
theorem tryR (op v : Int) (h : 21 ≤ op ∧ op ≤ 33) (hv : 0 ≤ v ∧ v ≤ 4294967295) : ∃ rd s1 s2 im R T cv fw fi, TryIs op v rd s1 s2 im R T cv fw fi := by
  have hp := oc_pos op (by omega)
  have o2 := f3_bd op
  have o3 := f7_bd op
  refine ⟨_, _, _, _, _, _, _, _, _, tabR op h, fun W => mwR _ _ _ W, fun W => miR _ _ _ W, fun W => instR _ _ _ v W hv, fun W => wordR _ _ _ _ _ _ _ _ W (oc_bd op) (f3_bd op) (f7_bd op), fun W => guessR op v W h hv, fun W => encR op _ _ _ _ W h (gvR v hv), ?_, cfwR, cfiR⟩
  have ob := oc_bd op
  refine ⟨by omega, by omega, by omega, by omega, by omega, by omega⟩
theorem cfwE (x y : Value) (W : World) : (callFunc 132 #[x, y]).run Try.prog W = .ok (.enter 132 #[x, y]) W := by kernel_rfl
theorem cfiE (x y : Value) (W : World) : (callFunc 131 #[x, y]).run Try.prog W = .ok (.enter 131 #[x, y]) W := by kernel_rfl
theorem tryE (op v : Int) (h : op = 34) (hv : 0 ≤ v ∧ v ≤ 4294967295) : ∃ rd s1 s2 im R T cv fw fi, TryIs op v rd s1 s2 im R T cv fw fi := by
  have hp := oc_pos op (by omega)
  have o2 := f3_bd op
  have o3 := f7_bd op
  refine ⟨_, _, _, _, _, _, _, _, _, tabE op h, fun W => mwE _ W, fun W => miE _ W, fun W => instE _ v W hv, fun W => wordE _ _ _ _ _ _ W (oc_bd op), fun W => guessE op v W h hv, fun W => encE op _ _ _ _ W h (gvE v hv), ?_, cfwE, cfiE⟩
  have ob := oc_bd op
  refine ⟨by omega, by omega, by omega, by omega, by omega, by omega⟩
theorem cfwI (x y : Value) (W : World) : (callFunc 117 #[x, y]).run Try.prog W = .ok (.enter 117 #[x, y]) W := by kernel_rfl
theorem cfiI (x y : Value) (W : World) : (callFunc 116 #[x, y]).run Try.prog W = .ok (.enter 116 #[x, y]) W := by kernel_rfl
theorem tryI (op v : Int) (h : op = 3 ∨ op = 10 ∨ (12 ≤ op ∧ op ≤ 17)) (hv : 0 ≤ v ∧ v ≤ 4294967295) : ∃ rd s1 s2 im R T cv fw fi, TryIs op v rd s1 s2 im R T cv fw fi := by
  have hp := oc_pos op (by omega)
  have o2 := f3_bd op
  have o3 := f7_bd op
  refine ⟨_, _, _, _, _, _, _, _, _, tabI op h, fun W => mwI _ _ W, fun W => miI _ _ W, fun W => instI _ _ v W hv, fun W => wordI _ _ _ _ _ _ _ W (oc_bd op) (f3_bd op), fun W => guessI op v W h hv, fun W => encI op _ _ _ _ W h (gvI v hv), ?_, cfwI, cfiI⟩
  generalize sg (v / 1048576 % 4096) 2048 4096 = z at *
  have ob := oc_bd op
  refine ⟨by omega, by omega, by omega, by omega, by omega, by omega⟩
theorem try_any (op v : Int) (h : 1 ≤ op ∧ op ≤ 34) (hv : 0 ≤ v ∧ v ≤ 4294967295) : ∃ rd s1 s2 im R T cv fw fi, TryIs op v rd s1 s2 im R T cv fw fi := by
  by_cases c1 : op = 1
  · exact tryU op v c1 hv
  by_cases c2 : op = 2
  · exact tryJ op v c2 hv
  by_cases c3 : 4 ≤ op ∧ op ≤ 9
  · exact tryB op v c3 hv
  by_cases c4 : op = 11
  · exact tryS op v c4 hv
  by_cases c5 : 18 ≤ op ∧ op ≤ 20
  · exact tryH op v c5 hv
  by_cases c6 : 21 ≤ op ∧ op ≤ 33
  · exact tryR op v c6 hv
  by_cases c7 : op = 34
  · exact tryE op v c7 hv
  exact tryI op v (by omega) hv
end Go.Proofs.Ytabjcodpagjbjaa
