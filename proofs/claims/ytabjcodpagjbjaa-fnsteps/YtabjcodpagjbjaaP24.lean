import Derived.Test.YtabjcodpagjbjaaP18
import Derived.Test.YtabjcodpagjbjaaP19
import Derived.Test.YtabjcodpagjbjaaP23
import Derived.Test.YtabjcodpagjbjaaP07
namespace Go.Proofs.Ytabjcodpagjbjaa
open Go.RowKit
set_option linter.unusedVariables false
set_option linter.unusedSimpArgs false
end Go.Proofs.Ytabjcodpagjbjaa

namespace Go.Proofs.Ytabjcodpagjbjaa
open Go.RowKit
set_option linter.unusedVariables false
set_option linter.unusedSimpArgs false
set_option maxRecDepth 100000 in
set_option maxHeartbeats 2000000 in
theorem guessR (op v : Int) (w : World) (h : 21 ≤ op ∧ op ≤ 33) (hv : 0 ≤ v ∧ v ≤ 4294967295) :
    Calls Try.prog 78 #[.int .u32 v, .int .i64 op] w fun e w' => e = .returned (.agg #[.int .i64 op, .int .i64 (v / 128 % 32), .int .i64 (v / 32768 % 32), .int .i64 (v / 1048576 % 32), .int .i64 (0)]) ∧ Below w.heap.size w w' := by
  have HH : Hid _ := h
  have HE : Hid ((Ending.returned (.agg #[.int .i64 op, .int .i64 (v / 128 % 32), .int .i64 (v / 32768 % 32), .int .i64 (v / 1048576 % 32), .int .i64 (0)]) : Ending) = .returned (.agg #[.int .i64 op, .int .i64 (v / 128 % 32), .int .i64 (v / 32768 % 32), .int .i64 (v / 1048576 % 32), .int .i64 (0)])) := rfl
  have m0 := mvi_7_5_0 v
  have m1 := mvi_15_5_0 v
  have m2 := mvi_20_5_0 v
  clear h
  go_enter Try.func78, Try.ntmps78
  go_wp2_with (first
    | (go_at_call 53; refine (shapeR _ _ HH.out).mono ?_; rintro e w' ⟨rfl, rfl⟩)
    | (go_at_call 89; refine (part_any _ _ _ _ _ hv (by decide)).mono ?_; rintro e w' ⟨rfl, rfl⟩)
    | (go_at_call 90; refine (signed_any _ _ _ (by omega) (by omega)).mono ?_; rintro e w' ⟨rfl, rfl⟩))
  refine bodyPost_ret (v := .agg #[.int .i64 op, .int .i64 (v / 128 % 32), .int .i64 (v / 32768 % 32), .int .i64 (v / 1048576 % 32), .int .i64 (0)]) (by simp [results, Try.results78, go_sem, m0, m1, m2]) rfl ⟨rfl, ?_⟩
  exact ((Below.refl _ _).alloc (Nat.le_refl _) _).alloc (by simp) _
theorem gvR (v : Int) (hv : 0 ≤ v ∧ v ≤ 4294967295) : vR (v / 128 % 32) (v / 32768 % 32) (v / 1048576 % 32) (0) = true := by
  unfold vR
  rw [decide_eq_true_eq]
  omega
set_option maxRecDepth 100000 in
set_option maxHeartbeats 2000000 in
theorem guessI (op v : Int) (w : World) (h : op = 3 ∨ op = 10 ∨ (12 ≤ op ∧ op ≤ 17)) (hv : 0 ≤ v ∧ v ≤ 4294967295) :
    Calls Try.prog 78 #[.int .u32 v, .int .i64 op] w fun e w' => e = .returned (.agg #[.int .i64 op, .int .i64 (v / 128 % 32), .int .i64 (v / 32768 % 32), .int .i64 (0), .int .i64 (sg (v / 1048576 % 4096) 2048 4096)]) ∧ Below w.heap.size w w' := by
  have HH : Hid _ := h
  have HE : Hid ((Ending.returned (.agg #[.int .i64 op, .int .i64 (v / 128 % 32), .int .i64 (v / 32768 % 32), .int .i64 (0), .int .i64 (sg (v / 1048576 % 4096) 2048 4096)]) : Ending) = .returned (.agg #[.int .i64 op, .int .i64 (v / 128 % 32), .int .i64 (v / 32768 % 32), .int .i64 (0), .int .i64 (sg (v / 1048576 % 4096) 2048 4096)])) := rfl
  have m0 := mvi_7_5_0 v
  have m1 := mvi_15_5_0 v
  have m2 := mvi_20_12_0 v
  clear h
  go_enter Try.func78, Try.ntmps78
  go_wp2_with (first
    | (go_at_call 53; refine (shapeI _ _ HH.out).mono ?_; rintro e w' ⟨rfl, rfl⟩)
    | (go_at_call 89; refine (part_any _ _ _ _ _ hv (by decide)).mono ?_; rintro e w' ⟨rfl, rfl⟩)
    | (go_at_call 90; refine (signed_any _ _ _ (by omega) (by omega)).mono ?_; rintro e w' ⟨rfl, rfl⟩))
  refine bodyPost_ret (v := .agg #[.int .i64 op, .int .i64 (v / 128 % 32), .int .i64 (v / 32768 % 32), .int .i64 (0), .int .i64 (sg (v / 1048576 % 4096) 2048 4096)]) (by simp [results, Try.results78, go_sem, m0, m1, m2]) rfl ⟨rfl, ?_⟩
  exact ((Below.refl _ _).alloc (Nat.le_refl _) _).alloc (by simp) _
theorem gvI (v : Int) (hv : 0 ≤ v ∧ v ≤ 4294967295) : vI (v / 128 % 32) (v / 32768 % 32) (0) (sg (v / 1048576 % 4096) 2048 4096) = true := by
  unfold vI
  rw [decide_eq_true_eq]
  have hs := sg_cases (v / 1048576 % 4096) 2048 4096
  generalize sg (v / 1048576 % 4096) 2048 4096 = z at *
  omega
set_option maxRecDepth 100000 in
set_option maxHeartbeats 2000000 in
theorem guessH (op v : Int) (w : World) (h : 18 ≤ op ∧ op ≤ 20) (hv : 0 ≤ v ∧ v ≤ 4294967295) :
    Calls Try.prog 78 #[.int .u32 v, .int .i64 op] w fun e w' => e = .returned (.agg #[.int .i64 op, .int .i64 (v / 128 % 32), .int .i64 (v / 32768 % 32), .int .i64 (0), .int .i64 (v / 1048576 % 32)]) ∧ Below w.heap.size w w' := by
  have HH : Hid _ := h
  have HE : Hid ((Ending.returned (.agg #[.int .i64 op, .int .i64 (v / 128 % 32), .int .i64 (v / 32768 % 32), .int .i64 (0), .int .i64 (v / 1048576 % 32)]) : Ending) = .returned (.agg #[.int .i64 op, .int .i64 (v / 128 % 32), .int .i64 (v / 32768 % 32), .int .i64 (0), .int .i64 (v / 1048576 % 32)])) := rfl
  have m0 := mvi_7_5_0 v
  have m1 := mvi_15_5_0 v
  have m2 := mvi_20_5_0 v
  clear h
  go_enter Try.func78, Try.ntmps78
  go_wp2_with (first
    | (go_at_call 53; refine (shapeH _ _ HH.out).mono ?_; rintro e w' ⟨rfl, rfl⟩)
    | (go_at_call 89; refine (part_any _ _ _ _ _ hv (by decide)).mono ?_; rintro e w' ⟨rfl, rfl⟩)
    | (go_at_call 90; refine (signed_any _ _ _ (by omega) (by omega)).mono ?_; rintro e w' ⟨rfl, rfl⟩))
  refine bodyPost_ret (v := .agg #[.int .i64 op, .int .i64 (v / 128 % 32), .int .i64 (v / 32768 % 32), .int .i64 (0), .int .i64 (v / 1048576 % 32)]) (by simp [results, Try.results78, go_sem, m0, m1, m2]) rfl ⟨rfl, ?_⟩
  exact ((Below.refl _ _).alloc (Nat.le_refl _) _).alloc (by simp) _
theorem gvH (v : Int) (hv : 0 ≤ v ∧ v ≤ 4294967295) : vH (v / 128 % 32) (v / 32768 % 32) (0) (v / 1048576 % 32) = true := by
  unfold vH
  rw [decide_eq_true_eq]
  omega
set_option maxRecDepth 100000 in
set_option maxHeartbeats 2000000 in
theorem guessS (op v : Int) (w : World) (h : op = 11) (hv : 0 ≤ v ∧ v ≤ 4294967295) :
    Calls Try.prog 78 #[.int .u32 v, .int .i64 op] w fun e w' => e = .returned (.agg #[.int .i64 op, .int .i64 (0), .int .i64 (v / 32768 % 32), .int .i64 (v / 1048576 % 32), .int .i64 (sg (v / 128 % 32 + v / 33554432 % 128 * 32) 2048 4096)]) ∧ Below w.heap.size w w' := by
  have HH : Hid _ := h
  have HE : Hid ((Ending.returned (.agg #[.int .i64 op, .int .i64 (0), .int .i64 (v / 32768 % 32), .int .i64 (v / 1048576 % 32), .int .i64 (sg (v / 128 % 32 + v / 33554432 % 128 * 32) 2048 4096)]) : Ending) = .returned (.agg #[.int .i64 op, .int .i64 (0), .int .i64 (v / 32768 % 32), .int .i64 (v / 1048576 % 32), .int .i64 (sg (v / 128 % 32 + v / 33554432 % 128 * 32) 2048 4096)])) := rfl
  have m0 := mvi_15_5_0 v
  have m1 := mvi_20_5_0 v
  have m2 := mvi_7_5_0 v
  have m3 := mvi_25_7_5 v
  clear h
  go_enter Try.func78, Try.ntmps78
  go_wp2_with (first
    | (go_at_call 53; refine (shapeS _ _ HH.out).mono ?_; rintro e w' ⟨rfl, rfl⟩)
    | (go_at_call 89; refine (part_any _ _ _ _ _ hv (by decide)).mono ?_; rintro e w' ⟨rfl, rfl⟩)
    | (go_at_call 90; refine (signed_any _ _ _ (by omega) (by omega)).mono ?_; rintro e w' ⟨rfl, rfl⟩))
  refine bodyPost_ret (v := .agg #[.int .i64 op, .int .i64 (0), .int .i64 (v / 32768 % 32), .int .i64 (v / 1048576 % 32), .int .i64 (sg (v / 128 % 32 + v / 33554432 % 128 * 32) 2048 4096)]) (by simp [results, Try.results78, go_sem, m0, m1, m2, m3]) rfl ⟨rfl, ?_⟩
  exact ((Below.refl _ _).alloc (Nat.le_refl _) _).alloc (by simp) _
theorem gvS (v : Int) (hv : 0 ≤ v ∧ v ≤ 4294967295) : vS (0) (v / 32768 % 32) (v / 1048576 % 32) (sg (v / 128 % 32 + v / 33554432 % 128 * 32) 2048 4096) = true := by
  unfold vS
  rw [decide_eq_true_eq]
  have hs := sg_cases (v / 128 % 32 + v / 33554432 % 128 * 32) 2048 4096
  generalize sg (v / 128 % 32 + v / 33554432 % 128 * 32) 2048 4096 = z at *
  omega
set_option maxRecDepth 100000 in
set_option maxHeartbeats 2000000 in
theorem guessB (op v : Int) (w : World) (h : 4 ≤ op ∧ op ≤ 9) (hv : 0 ≤ v ∧ v ≤ 4294967295) :
    Calls Try.prog 78 #[.int .u32 v, .int .i64 op] w fun e w' => e = .returned (.agg #[.int .i64 op, .int .i64 (0), .int .i64 (v / 32768 % 32), .int .i64 (v / 1048576 % 32), .int .i64 (sg (v / 256 % 16 * 2 + v / 33554432 % 64 * 32 + v / 128 % 2 * 2048 + v / 2147483648 % 2 * 4096) 4096 8192)]) ∧ Below w.heap.size w w' := by
  have HH : Hid _ := h
  have HE : Hid ((Ending.returned (.agg #[.int .i64 op, .int .i64 (0), .int .i64 (v / 32768 % 32), .int .i64 (v / 1048576 % 32), .int .i64 (sg (v / 128 % 2 * 2048 + v / 256 % 16 * 2 + v / 33554432 % 64 * 32 + v / 2147483648 % 2 * 4096) 4096 8192)]) : Ending) = .returned (.agg #[.int .i64 op, .int .i64 (0), .int .i64 (v / 32768 % 32), .int .i64 (v / 1048576 % 32), .int .i64 (sg (v / 256 % 16 * 2 + v / 33554432 % 64 * 32 + v / 128 % 2 * 2048 + v / 2147483648 % 2 * 4096) 4096 8192)])) := congrArg (fun z => Ending.returned (.agg #[.int .i64 op, .int .i64 (0), .int .i64 (v / 32768 % 32), .int .i64 (v / 1048576 % 32), .int .i64 (sg z 4096 8192)])) (by omega)
  have m0 := mvi_15_5_0 v
  have m1 := mvi_20_5_0 v
  have m2 := mvi_7_1_11 v
  have m3 := mvi_8_4_1 v
  have m4 := mvi_25_6_5 v
  have m5 := mvi_31_1_12 v
  clear h
  go_enter Try.func78, Try.ntmps78
  go_wp2_with (first
    | (go_at_call 53; refine (shapeB _ _ HH.out).mono ?_; rintro e w' ⟨rfl, rfl⟩)
    | (go_at_call 89; refine (part_any _ _ _ _ _ hv (by decide)).mono ?_; rintro e w' ⟨rfl, rfl⟩)
    | (go_at_call 90; refine (signed_any _ _ _ (by omega) (by omega)).mono ?_; rintro e w' ⟨rfl, rfl⟩))
  refine bodyPost_ret (v := .agg #[.int .i64 op, .int .i64 (0), .int .i64 (v / 32768 % 32), .int .i64 (v / 1048576 % 32), .int .i64 (sg (v / 128 % 2 * 2048 + v / 256 % 16 * 2 + v / 33554432 % 64 * 32 + v / 2147483648 % 2 * 4096) 4096 8192)]) (by simp [results, Try.results78, go_sem, m0, m1, m2, m3, m4, m5]) rfl ⟨HE.out, ?_⟩
  exact ((Below.refl _ _).alloc (Nat.le_refl _) _).alloc (by simp) _
theorem gvB (v : Int) (hv : 0 ≤ v ∧ v ≤ 4294967295) : vB (0) (v / 32768 % 32) (v / 1048576 % 32) (sg (v / 256 % 16 * 2 + v / 33554432 % 64 * 32 + v / 128 % 2 * 2048 + v / 2147483648 % 2 * 4096) 4096 8192) = true := by
  unfold vB
  rw [decide_eq_true_eq]
  have hs := sg_cases (v / 256 % 16 * 2 + v / 33554432 % 64 * 32 + v / 128 % 2 * 2048 + v / 2147483648 % 2 * 4096) 4096 8192
  generalize sg (v / 256 % 16 * 2 + v / 33554432 % 64 * 32 + v / 128 % 2 * 2048 + v / 2147483648 % 2 * 4096) 4096 8192 = z at *
  omega
set_option maxRecDepth 100000 in
set_option maxHeartbeats 2000000 in
theorem guessU (op v : Int) (w : World) (h : op = 1) (hv : 0 ≤ v ∧ v ≤ 4294967295) :
    Calls Try.prog 78 #[.int .u32 v, .int .i64 op] w fun e w' => e = .returned (.agg #[.int .i64 op, .int .i64 (v / 128 % 32), .int .i64 (0), .int .i64 (0), .int .i64 (v / 4096 % 1048576)]) ∧ Below w.heap.size w w' := by
  have HH : Hid _ := h
  have HE : Hid ((Ending.returned (.agg #[.int .i64 op, .int .i64 (v / 128 % 32), .int .i64 (0), .int .i64 (0), .int .i64 (v / 4096 % 1048576)]) : Ending) = .returned (.agg #[.int .i64 op, .int .i64 (v / 128 % 32), .int .i64 (0), .int .i64 (0), .int .i64 (v / 4096 % 1048576)])) := rfl
  have m0 := mvi_7_5_0 v
  have m1 := mvi_12_20_0 v
  clear h
  go_enter Try.func78, Try.ntmps78
  go_wp2_with (first
    | (go_at_call 53; refine (shapeU _ _ HH.out).mono ?_; rintro e w' ⟨rfl, rfl⟩)
    | (go_at_call 89; refine (part_any _ _ _ _ _ hv (by decide)).mono ?_; rintro e w' ⟨rfl, rfl⟩)
    | (go_at_call 90; refine (signed_any _ _ _ (by omega) (by omega)).mono ?_; rintro e w' ⟨rfl, rfl⟩))
  refine bodyPost_ret (v := .agg #[.int .i64 op, .int .i64 (v / 128 % 32), .int .i64 (0), .int .i64 (0), .int .i64 (v / 4096 % 1048576)]) (by simp [results, Try.results78, go_sem, m0, m1]) rfl ⟨rfl, ?_⟩
  exact ((Below.refl _ _).alloc (Nat.le_refl _) _).alloc (by simp) _
theorem gvU (v : Int) (hv : 0 ≤ v ∧ v ≤ 4294967295) : vU (v / 128 % 32) (0) (0) (v / 4096 % 1048576) = true := by
  unfold vU
  rw [decide_eq_true_eq]
  omega
set_option maxRecDepth 100000 in
set_option maxHeartbeats 2000000 in
theorem guessJ (op v : Int) (w : World) (h : op = 2) (hv : 0 ≤ v ∧ v ≤ 4294967295) :
    Calls Try.prog 78 #[.int .u32 v, .int .i64 op] w fun e w' => e = .returned (.agg #[.int .i64 op, .int .i64 (v / 128 % 32), .int .i64 (0), .int .i64 (0), .int .i64 (sg (v / 2097152 % 1024 * 2 + v / 1048576 % 2 * 2048 + v / 4096 % 256 * 4096 + v / 2147483648 % 2 * 1048576) 1048576 2097152)]) ∧ Below w.heap.size w w' := by
  have HH : Hid _ := h
  have HE : Hid ((Ending.returned (.agg #[.int .i64 op, .int .i64 (v / 128 % 32), .int .i64 (0), .int .i64 (0), .int .i64 (sg (v / 4096 % 256 * 4096 + v / 1048576 % 2 * 2048 + v / 2097152 % 1024 * 2 + v / 2147483648 % 2 * 1048576) 1048576 2097152)]) : Ending) = .returned (.agg #[.int .i64 op, .int .i64 (v / 128 % 32), .int .i64 (0), .int .i64 (0), .int .i64 (sg (v / 2097152 % 1024 * 2 + v / 1048576 % 2 * 2048 + v / 4096 % 256 * 4096 + v / 2147483648 % 2 * 1048576) 1048576 2097152)])) := congrArg (fun z => Ending.returned (.agg #[.int .i64 op, .int .i64 (v / 128 % 32), .int .i64 (0), .int .i64 (0), .int .i64 (sg z 1048576 2097152)])) (by omega)
  have m0 := mvi_7_5_0 v
  have m1 := mvi_12_8_12 v
  have m2 := mvi_20_1_11 v
  have m3 := mvi_21_10_1 v
  have m4 := mvi_31_1_20 v
  clear h
  go_enter Try.func78, Try.ntmps78
  go_wp2_with (first
    | (go_at_call 53; refine (shapeJ _ _ HH.out).mono ?_; rintro e w' ⟨rfl, rfl⟩)
    | (go_at_call 89; refine (part_any _ _ _ _ _ hv (by decide)).mono ?_; rintro e w' ⟨rfl, rfl⟩)
    | (go_at_call 90; refine (signed_any _ _ _ (by omega) (by omega)).mono ?_; rintro e w' ⟨rfl, rfl⟩))
  refine bodyPost_ret (v := .agg #[.int .i64 op, .int .i64 (v / 128 % 32), .int .i64 (0), .int .i64 (0), .int .i64 (sg (v / 4096 % 256 * 4096 + v / 1048576 % 2 * 2048 + v / 2097152 % 1024 * 2 + v / 2147483648 % 2 * 1048576) 1048576 2097152)]) (by simp [results, Try.results78, go_sem, m0, m1, m2, m3, m4]) rfl ⟨HE.out, ?_⟩
  exact ((Below.refl _ _).alloc (Nat.le_refl _) _).alloc (by simp) _
theorem gvJ (v : Int) (hv : 0 ≤ v ∧ v ≤ 4294967295) : vJ (v / 128 % 32) (0) (0) (sg (v / 2097152 % 1024 * 2 + v / 1048576 % 2 * 2048 + v / 4096 % 256 * 4096 + v / 2147483648 % 2 * 1048576) 1048576 2097152) = true := by
  unfold vJ
  rw [decide_eq_true_eq]
  have hs := sg_cases (v / 2097152 % 1024 * 2 + v / 1048576 % 2 * 2048 + v / 4096 % 256 * 4096 + v / 2147483648 % 2 * 1048576) 1048576 2097152
  generalize sg (v / 2097152 % 1024 * 2 + v / 1048576 % 2 * 2048 + v / 4096 % 256 * 4096 + v / 2147483648 % 2 * 1048576) 1048576 2097152 = z at *
  omega
set_option maxRecDepth 100000 in
set_option maxHeartbeats 2000000 in
theorem guessE (op v : Int) (w : World) (h : op = 34) (hv : 0 ≤ v ∧ v ≤ 4294967295) :
    Calls Try.prog 78 #[.int .u32 v, .int .i64 op] w fun e w' => e = .returned (.agg #[.int .i64 op, .int .i64 (0), .int .i64 (0), .int .i64 (0), .int .i64 (0)]) ∧ Below w.heap.size w w' := by
  have HH : Hid _ := h
  have HE : Hid ((Ending.returned (.agg #[.int .i64 op, .int .i64 (0), .int .i64 (0), .int .i64 (0), .int .i64 (0)]) : Ending) = .returned (.agg #[.int .i64 op, .int .i64 (0), .int .i64 (0), .int .i64 (0), .int .i64 (0)])) := rfl
  clear h
  go_enter Try.func78, Try.ntmps78
  go_wp2_with (first
    | (go_at_call 53; refine (shapeE _ _ HH.out).mono ?_; rintro e w' ⟨rfl, rfl⟩)
    | (go_at_call 89; refine (part_any _ _ _ _ _ hv (by decide)).mono ?_; rintro e w' ⟨rfl, rfl⟩)
    | (go_at_call 90; refine (signed_any _ _ _ (by omega) (by omega)).mono ?_; rintro e w' ⟨rfl, rfl⟩))
  refine bodyPost_ret (v := .agg #[.int .i64 op, .int .i64 (0), .int .i64 (0), .int .i64 (0), .int .i64 (0)]) (by simp [results, Try.results78, go_sem]) rfl ⟨rfl, ?_⟩
  exact ((Below.refl _ _).alloc (Nat.le_refl _) _).alloc (by simp) _
theorem gvE (v : Int) (hv : 0 ≤ v ∧ v ≤ 4294967295) : vE (0) (0) (0) (0) = true := by
  unfold vE
  rw [decide_eq_true_eq]
  omega
end Go.Proofs.Ytabjcodpagjbjaa
