import Derived.Test.YtabjcodpagjbjaaRows
import Derived.Test.YtabjcodpagjbjaaP05
import Derived.WalkKit
import Derived.WalkSpells
import Derived.ProofKit
import Derived.Deep.QuietTactic
import Derived.BigQuiet
import Derived.Deep.RegionHeld3
namespace Go.Proofs.Ytabjcodpagjbjaa
open Go.RowKit
set_option linter.unusedVariables false

def mvi (v f c t : Int) : Int := v / 2 ^ f.toNat % 2 ^ c.toNat * 2 ^ t.toNat % 4294967296
def sxi (v b : Int) : Int := wrap32 (v * 2 ^ (32 - b).toNat % 4294967296) / 2 ^ (32 - b).toNat

theorem mvi_bd (v f c t : Int) : 0 ≤ mvi v f c t ∧ mvi v f c t ≤ 4294967295 := by unfold mvi; omega

theorem ret_int {k : IntKind} {a b : Int} (h : a = b) : Ending.returned (.int k a) = .returned (.int k b) := by rw [h]

theorem move_nat (v : Int) (f c t : Nat) (w : World) (h0 : 0 ≤ v) (h1 : v ≤ 4294967295) (hf : f ≤ 31) (hc : c ≤ 31) (ht : t ≤ 31) :
    Calls Try.prog 111 #[.int .u32 v, .int .u64 f, .int .u64 c, .int .u64 t] w fun e w' => e = .returned (.int .u32 (v / 2 ^ f % 2 ^ c * 2 ^ t % 4294967296)) ∧ w' = w := by
  have E : Hid _ := and_mask v f c h0 h1 hc
  go_enter Try.func111, Try.ntmps111
  go_wp2
  go_ret
  refine ⟨ret_int ?_, rfl⟩
  rw [E.out]
theorem move_any (v f c t : Int) (w : World) (h0 : 0 ≤ v ∧ v ≤ 4294967295) (hf : 0 ≤ f ∧ f ≤ 31) (hc : 0 ≤ c ∧ c ≤ 31) (ht : 0 ≤ t ∧ t ≤ 31) :
    Calls Try.prog 111 #[.int .u32 v, .int .u64 f, .int .u64 c, .int .u64 t] w fun e w' => e = .returned (.int .u32 (mvi v f c t)) ∧ w' = w := by
  obtain ⟨F, rfl⟩ := Int.eq_ofNat_of_zero_le hf.1
  obtain ⟨C, rfl⟩ := Int.eq_ofNat_of_zero_le hc.1
  obtain ⟨T, rfl⟩ := Int.eq_ofNat_of_zero_le ht.1
  exact move_nat v F C T w h0.1 h0.2 (by omega) (by omega) (by omega)

theorem w64_div (x : Int) (n : Nat) (hx : -2147483648 ≤ x ∧ x ≤ 2147483647) : wrap64 (x / 2 ^ n) = x / 2 ^ n := by
  have h := Int.natAbs_ediv_le_natAbs x (2 ^ n)
  unfold wrap64
  omega

theorem sx_nat (v : Int) (b : Nat) (w : World) (h0 : 0 ≤ v) (h1 : v ≤ 4294967295) (hf : b ≤ 31) (hf : 1 ≤ b) :
    Calls Try.prog 115 #[.int .u32 v, .int .u64 b] w fun e w' => e = .returned (.int .i64 (wrap32 (v * 2 ^ (32 - b) % 4294967296) / 2 ^ (32 - b))) ∧ w' = w := by
  go_enter Try.func115, Try.ntmps115
  go_wp2
  go_ret
  exact ⟨ret_int (w64_div _ _ (w32_bd _)), rfl⟩
theorem sx_any (v b : Int) (w : World) (h0 : 0 ≤ v ∧ v ≤ 4294967295) (hb : 1 ≤ b ∧ b ≤ 31) :
    Calls Try.prog 115 #[.int .u32 v, .int .u64 b] w fun e w' => e = .returned (.int .i64 (sxi v b)) ∧ w' = w := by
  obtain ⟨B, rfl⟩ := Int.eq_ofNat_of_zero_le (show 0 ≤ b by omega)
  have e : (32 - (B : Int)).toNat = 32 - B := by omega
  unfold sxi
  rw [e]
  exact sx_nat v B w h0.1 h0.2 (by omega) (by omega)

theorem fb_any (a b c : Int) (w : World) (h0 : 0 ≤ a ∧ a ≤ 127) (h2 : 0 ≤ b ∧ b ≤ 7) (h4 : 0 ≤ c ∧ c ≤ 127) :
    Calls Try.prog 119 #[.int .u32 a, .int .u32 b, .int .u32 c] w fun e w' => e = .returned (.int .u32 (a + b * 4096 + c * 33554432)) ∧ w' = w := by
  have E : Hid _ := orFb a b c h0 h2 h4
  go_enter Try.func119, Try.ntmps119
  go_wp2
  go_ret
  exact ⟨ret_int E.out, rfl⟩
theorem mvi_0_5_7 (v : Int) : mvi v 0 5 7 = v % 32 * 128 := by unfold mvi; simp only [Int.reducePow, Int.reduceToNat]; omega
theorem mvi_0_5_15 (v : Int) : mvi v 0 5 15 = v % 32 * 32768 := by unfold mvi; simp only [Int.reducePow, Int.reduceToNat]; omega
theorem mvi_0_5_20 (v : Int) : mvi v 0 5 20 = v % 32 * 1048576 := by unfold mvi; simp only [Int.reducePow, Int.reduceToNat]; omega
theorem mvi_0_12_20 (v : Int) : mvi v 0 12 20 = v % 4096 * 1048576 := by unfold mvi; simp only [Int.reducePow, Int.reduceToNat]; omega
theorem mvi_0_20_12 (v : Int) : mvi v 0 20 12 = v % 1048576 * 4096 := by unfold mvi; simp only [Int.reducePow, Int.reduceToNat]; omega
theorem mvi_1_4_8 (v : Int) : mvi v 1 4 8 = v / 2 % 16 * 256 := by unfold mvi; simp only [Int.reducePow, Int.reduceToNat]; omega
theorem mvi_1_10_21 (v : Int) : mvi v 1 10 21 = v / 2 % 1024 * 2097152 := by unfold mvi; simp only [Int.reducePow, Int.reduceToNat]; omega
theorem mvi_5_6_25 (v : Int) : mvi v 5 6 25 = v / 32 % 64 * 33554432 := by unfold mvi; simp only [Int.reducePow, Int.reduceToNat]; omega
theorem mvi_5_7_25 (v : Int) : mvi v 5 7 25 = v / 32 % 128 * 33554432 := by unfold mvi; simp only [Int.reducePow, Int.reduceToNat]; omega
theorem mvi_7_1_11 (v : Int) : mvi v 7 1 11 = v / 128 % 2 * 2048 := by unfold mvi; simp only [Int.reducePow, Int.reduceToNat]; omega
theorem mvi_7_5_0 (v : Int) : mvi v 7 5 0 = v / 128 % 32 := by unfold mvi; simp only [Int.reducePow, Int.reduceToNat]; omega
theorem mvi_8_4_1 (v : Int) : mvi v 8 4 1 = v / 256 % 16 * 2 := by unfold mvi; simp only [Int.reducePow, Int.reduceToNat]; omega
theorem mvi_11_1_7 (v : Int) : mvi v 11 1 7 = v / 2048 % 2 * 128 := by unfold mvi; simp only [Int.reducePow, Int.reduceToNat]; omega
theorem mvi_11_1_20 (v : Int) : mvi v 11 1 20 = v / 2048 % 2 * 1048576 := by unfold mvi; simp only [Int.reducePow, Int.reduceToNat]; omega
theorem mvi_12_1_31 (v : Int) : mvi v 12 1 31 = v / 4096 % 2 * 2147483648 := by unfold mvi; simp only [Int.reducePow, Int.reduceToNat]; omega
theorem mvi_12_8_12 (v : Int) : mvi v 12 8 12 = v / 4096 % 256 * 4096 := by unfold mvi; simp only [Int.reducePow, Int.reduceToNat]; omega
theorem mvi_12_20_0 (v : Int) : mvi v 12 20 0 = v / 4096 % 1048576 := by unfold mvi; simp only [Int.reducePow, Int.reduceToNat]; omega
theorem mvi_15_5_0 (v : Int) : mvi v 15 5 0 = v / 32768 % 32 := by unfold mvi; simp only [Int.reducePow, Int.reduceToNat]; omega
theorem mvi_20_1_11 (v : Int) : mvi v 20 1 11 = v / 1048576 % 2 * 2048 := by unfold mvi; simp only [Int.reducePow, Int.reduceToNat]; omega
theorem mvi_20_1_31 (v : Int) : mvi v 20 1 31 = v / 1048576 % 2 * 2147483648 := by unfold mvi; simp only [Int.reducePow, Int.reduceToNat]; omega
theorem mvi_20_5_0 (v : Int) : mvi v 20 5 0 = v / 1048576 % 32 := by unfold mvi; simp only [Int.reducePow, Int.reduceToNat]; omega
theorem mvi_20_12_0 (v : Int) : mvi v 20 12 0 = v / 1048576 % 4096 := by unfold mvi; simp only [Int.reducePow, Int.reduceToNat]; omega
theorem mvi_21_10_1 (v : Int) : mvi v 21 10 1 = v / 2097152 % 1024 * 2 := by unfold mvi; simp only [Int.reducePow, Int.reduceToNat]; omega
theorem mvi_25_6_5 (v : Int) : mvi v 25 6 5 = v / 33554432 % 64 * 32 := by unfold mvi; simp only [Int.reducePow, Int.reduceToNat]; omega
theorem mvi_25_7_5 (v : Int) : mvi v 25 7 5 = v / 33554432 % 128 * 32 := by unfold mvi; simp only [Int.reducePow, Int.reduceToNat]; omega
theorem mvi_31_1_12 (v : Int) : mvi v 31 1 12 = v / 2147483648 % 2 * 4096 := by unfold mvi; simp only [Int.reducePow, Int.reduceToNat]; omega
theorem mvi_31_1_20 (v : Int) : mvi v 31 1 20 = v / 2147483648 % 2 * 1048576 := by unfold mvi; simp only [Int.reducePow, Int.reduceToNat]; omega
theorem sxi_12 (v : Int) (h : 0 ≤ v ∧ v ≤ 4095) : sxi v 12 = if v ≥ 2048 then v - 4096 else v := by
  unfold sxi wrap32
  simp only [Int.reduceSub, Int.reduceToNat, Int.reducePow]
  split <;> omega
theorem sxi_13 (v : Int) (h : 0 ≤ v ∧ v ≤ 8191) : sxi v 13 = if v ≥ 4096 then v - 8192 else v := by
  unfold sxi wrap32
  simp only [Int.reduceSub, Int.reduceToNat, Int.reducePow]
  split <;> omega
theorem sxi_21 (v : Int) (h : 0 ≤ v ∧ v ≤ 2097151) : sxi v 21 = if v ≥ 1048576 then v - 2097152 else v := by
  unfold sxi wrap32
  simp only [Int.reduceSub, Int.reduceToNat, Int.reducePow]
  split <;> omega
end Go.Proofs.Ytabjcodpagjbjaa

namespace Go.Proofs.Ytabjcodpagjbjaa
open Go.RowKit
set_option linter.unusedVariables false


theorem fb0_any (a b : Int) (w : World) (h0 : 0 ≤ a ∧ a ≤ 127) (h2 : 0 ≤ b ∧ b ≤ 7) :
    Calls Try.prog 119 #[.int .u32 a, .int .u32 b, .int .u32 0] w fun e w' => e = .returned (.int .u32 (a + b * 4096)) ∧ w' = w :=
  (fb_any a b 0 w h0 h2 (by omega)).mono fun e w' ⟨he, hw⟩ => ⟨he.trans (ret_int (by omega)), hw⟩
theorem putRd_any (op rd s1 s2 im : Int) (w : World) : Calls Try.prog 112 #[.agg #[.int .i64 op, .int .i64 rd, .int .i64 s1, .int .i64 s2, .int .i64 im]] w fun e w' => e = .returned (.int .u32 (mvi (rd % 4294967296) 0 5 7)) ∧ w' = w.alloc (.cells #[.int .i64 op, .int .i64 rd, .int .i64 s1, .int .i64 s2, .int .i64 im] 64) := by
  go_enter Try.func112, Try.ntmps112
  go_wp2_with (go_at_call 111; refine (move_any _ _ _ _ _ (by omega) (by omega) (by omega) (by omega)).mono ?_; rintro e w' ⟨rfl, rfl⟩)
  go_ret
  exact ⟨rfl, rfl⟩
theorem putRs1_any (op rd s1 s2 im : Int) (w : World) : Calls Try.prog 120 #[.agg #[.int .i64 op, .int .i64 rd, .int .i64 s1, .int .i64 s2, .int .i64 im]] w fun e w' => e = .returned (.int .u32 (mvi (s1 % 4294967296) 0 5 15)) ∧ w' = w.alloc (.cells #[.int .i64 op, .int .i64 rd, .int .i64 s1, .int .i64 s2, .int .i64 im] 64) := by
  go_enter Try.func120, Try.ntmps120
  go_wp2_with (go_at_call 111; refine (move_any _ _ _ _ _ (by omega) (by omega) (by omega) (by omega)).mono ?_; rintro e w' ⟨rfl, rfl⟩)
  go_ret
  exact ⟨rfl, rfl⟩
theorem putRs2_any (op rd s1 s2 im : Int) (w : World) : Calls Try.prog 124 #[.agg #[.int .i64 op, .int .i64 rd, .int .i64 s1, .int .i64 s2, .int .i64 im]] w fun e w' => e = .returned (.int .u32 (mvi (s2 % 4294967296) 0 5 20)) ∧ w' = w.alloc (.cells #[.int .i64 op, .int .i64 rd, .int .i64 s1, .int .i64 s2, .int .i64 im] 64) := by
  go_enter Try.func124, Try.ntmps124
  go_wp2_with (go_at_call 111; refine (move_any _ _ _ _ _ (by omega) (by omega) (by omega) (by omega)).mono ?_; rintro e w' ⟨rfl, rfl⟩)
  go_ret
  exact ⟨rfl, rfl⟩
theorem takeRd_any (v : Int) (w : World) (h : 0 ≤ v ∧ v ≤ 4294967295) : Calls Try.prog 110 #[.int .u32 v] w fun e w' => e = .returned (.int .i64 (mvi v 7 5 0)) ∧ w' = w := by
  have hb := mvi_bd v 7 5 0
  go_enter Try.func110, Try.ntmps110
  go_wp2_with (go_at_call 111; refine (move_any _ _ _ _ _ (by omega) (by omega) (by omega) (by omega)).mono ?_; rintro e w' ⟨rfl, rfl⟩)
  go_ret
  exact ⟨rfl, rfl⟩
theorem takeRs1_any (v : Int) (w : World) (h : 0 ≤ v ∧ v ≤ 4294967295) : Calls Try.prog 118 #[.int .u32 v] w fun e w' => e = .returned (.int .i64 (mvi v 15 5 0)) ∧ w' = w := by
  have hb := mvi_bd v 15 5 0
  go_enter Try.func118, Try.ntmps118
  go_wp2_with (go_at_call 111; refine (move_any _ _ _ _ _ (by omega) (by omega) (by omega) (by omega)).mono ?_; rintro e w' ⟨rfl, rfl⟩)
  go_ret
  exact ⟨rfl, rfl⟩
theorem takeRs2_any (v : Int) (w : World) (h : 0 ≤ v ∧ v ≤ 4294967295) : Calls Try.prog 123 #[.int .u32 v] w fun e w' => e = .returned (.int .i64 (mvi v 20 5 0)) ∧ w' = w := by
  have hb := mvi_bd v 20 5 0
  go_enter Try.func123, Try.ntmps123
  go_wp2_with (go_at_call 111; refine (move_any _ _ _ _ _ (by omega) (by omega) (by omega) (by omega)).mono ?_; rintro e w' ⟨rfl, rfl⟩)
  go_ret
  exact ⟨rfl, rfl⟩

end Go.Proofs.Ytabjcodpagjbjaa

namespace Go.Proofs.Ytabjcodpagjbjaa
open Go.RowKit
set_option linter.unusedVariables false
def sg (x h m : Int) : Int := if x ≥ h then x - m else x
theorem or_bd (a b : Int) : 0 ≤ bits .or .u32 a b ∧ bits .or .u32 a b ≤ 4294967295 := by
  unfold bits
  dsimp only
  rw [IntKind.wrap_u32']
  omega
set_option maxHeartbeats 1000000 in
theorem instR (o f g v : Int) (w : World) (hv : 0 ≤ v ∧ v ≤ 4294967295) :
    Calls Try.prog 129 #[.agg #[.int .u32 o, .int .u32 f, .int .u32 g], .int .u32 v] w fun e w' => e = .returned (.agg #[.int .i64 (0), .int .i64 (v / 128 % 32), .int .i64 (v / 32768 % 32), .int .i64 (v / 1048576 % 32), .int .i64 (0)]) ∧ Below w.heap.size w w' := by
  have E : Hid ((Ending.returned (.agg #[.int .i64 (0), .int .i64 (mvi v 7 5 0), .int .i64 (mvi v 15 5 0), .int .i64 (mvi v 20 5 0), .int .i64 (0)]) : Ending) = .returned (.agg #[.int .i64 (0), .int .i64 (v / 128 % 32), .int .i64 (v / 32768 % 32), .int .i64 (v / 1048576 % 32), .int .i64 (0)])) := by rw [mvi_7_5_0, mvi_15_5_0, mvi_20_5_0]; exact Eq.refl _
  go_enter Try.func129, Try.ntmps129
  go_wp2_with (first
    | (go_at_call 110; refine (takeRd_any _ _ hv).mono ?_; rintro e w' ⟨rfl, rfl⟩)
    | (go_at_call 118; refine (takeRs1_any _ _ hv).mono ?_; rintro e w' ⟨rfl, rfl⟩)
    | (go_at_call 123; refine (takeRs2_any _ _ hv).mono ?_; rintro e w' ⟨rfl, rfl⟩)
    | (go_at_call 115; refine (sx_any _ _ _ (by first | exact mvi_bd _ _ _ _ | exact or_bd _ _) (by omega)).mono ?_; rintro e w' ⟨rfl, rfl⟩)
    | (go_at_call 111; refine (move_any _ _ _ _ _ hv (by omega) (by omega) (by omega)).mono ?_; rintro e w' ⟨rfl, rfl⟩))
  refine bodyPost_ret (v := .agg #[.int .i64 (0), .int .i64 (mvi v 7 5 0), .int .i64 (mvi v 15 5 0), .int .i64 (mvi v 20 5 0), .int .i64 (0)]) (by simp [results, Try.results129, go_sem]) rfl ⟨E.out, ?_⟩
  first | exact (Below.refl _ _).alloc (Nat.le_refl _) _ | exact ((Below.refl _ _).alloc (Nat.le_refl _) _).alloc (by simp) _
theorem immI (v : Int) (hv : 0 ≤ v ∧ v ≤ 4294967295) : sxi (mvi v 20 12 0) 12 = sg (v / 1048576 % 4096) 2048 4096 := by
  simp only [mvi_20_12_0]
  rw [sxi_12 _ (by omega)]
  rfl
set_option maxHeartbeats 1000000 in
theorem instI (o f v : Int) (w : World) (hv : 0 ≤ v ∧ v ≤ 4294967295) :
    Calls Try.prog 116 #[.agg #[.int .u32 o, .int .u32 f], .int .u32 v] w fun e w' => e = .returned (.agg #[.int .i64 (0), .int .i64 (v / 128 % 32), .int .i64 (v / 32768 % 32), .int .i64 (0), .int .i64 (sg (v / 1048576 % 4096) 2048 4096)]) ∧ Below w.heap.size w w' := by
  have E : Hid ((Ending.returned (.agg #[.int .i64 (0), .int .i64 (mvi v 7 5 0), .int .i64 (mvi v 15 5 0), .int .i64 (0), .int .i64 (sxi (mvi v 20 12 0) 12)]) : Ending) = .returned (.agg #[.int .i64 (0), .int .i64 (v / 128 % 32), .int .i64 (v / 32768 % 32), .int .i64 (0), .int .i64 (sg (v / 1048576 % 4096) 2048 4096)])) := by rw [immI v hv, mvi_7_5_0, mvi_15_5_0]; exact Eq.refl _
  go_enter Try.func116, Try.ntmps116
  go_wp2_with (first
    | (go_at_call 110; refine (takeRd_any _ _ hv).mono ?_; rintro e w' ⟨rfl, rfl⟩)
    | (go_at_call 118; refine (takeRs1_any _ _ hv).mono ?_; rintro e w' ⟨rfl, rfl⟩)
    | (go_at_call 123; refine (takeRs2_any _ _ hv).mono ?_; rintro e w' ⟨rfl, rfl⟩)
    | (go_at_call 115; refine (sx_any _ _ _ (by first | exact mvi_bd _ _ _ _ | exact or_bd _ _) (by omega)).mono ?_; rintro e w' ⟨rfl, rfl⟩)
    | (go_at_call 111; refine (move_any _ _ _ _ _ hv (by omega) (by omega) (by omega)).mono ?_; rintro e w' ⟨rfl, rfl⟩))
  refine bodyPost_ret (v := .agg #[.int .i64 (0), .int .i64 (mvi v 7 5 0), .int .i64 (mvi v 15 5 0), .int .i64 (0), .int .i64 (sxi (mvi v 20 12 0) 12)]) (by simp [results, Try.results116, go_sem]) rfl ⟨E.out, ?_⟩
  first | exact (Below.refl _ _).alloc (Nat.le_refl _) _ | exact ((Below.refl _ _).alloc (Nat.le_refl _) _).alloc (by simp) _
theorem immH (v : Int) (hv : 0 ≤ v ∧ v ≤ 4294967295) : mvi v 20 5 0 = v / 1048576 % 32 := by
  simp only [mvi_20_5_0]
set_option maxHeartbeats 1000000 in
theorem instH (o f g v : Int) (w : World) (hv : 0 ≤ v ∧ v ≤ 4294967295) :
    Calls Try.prog 127 #[.agg #[.int .u32 o, .int .u32 f, .int .u32 g], .int .u32 v] w fun e w' => e = .returned (.agg #[.int .i64 (0), .int .i64 (v / 128 % 32), .int .i64 (v / 32768 % 32), .int .i64 (0), .int .i64 (v / 1048576 % 32)]) ∧ Below w.heap.size w w' := by
  have hbm := mvi_bd v 20 5 0
  have E : Hid ((Ending.returned (.agg #[.int .i64 (0), .int .i64 (mvi v 7 5 0), .int .i64 (mvi v 15 5 0), .int .i64 (0), .int .i64 (mvi v 20 5 0)]) : Ending) = .returned (.agg #[.int .i64 (0), .int .i64 (v / 128 % 32), .int .i64 (v / 32768 % 32), .int .i64 (0), .int .i64 (v / 1048576 % 32)])) := by rw [immH v hv, mvi_7_5_0, mvi_15_5_0]; exact Eq.refl _
  go_enter Try.func127, Try.ntmps127
  go_wp2_with (first
    | (go_at_call 110; refine (takeRd_any _ _ hv).mono ?_; rintro e w' ⟨rfl, rfl⟩)
    | (go_at_call 118; refine (takeRs1_any _ _ hv).mono ?_; rintro e w' ⟨rfl, rfl⟩)
    | (go_at_call 123; refine (takeRs2_any _ _ hv).mono ?_; rintro e w' ⟨rfl, rfl⟩)
    | (go_at_call 115; refine (sx_any _ _ _ (by first | exact mvi_bd _ _ _ _ | exact or_bd _ _) (by omega)).mono ?_; rintro e w' ⟨rfl, rfl⟩)
    | (go_at_call 111; refine (move_any _ _ _ _ _ hv (by omega) (by omega) (by omega)).mono ?_; rintro e w' ⟨rfl, rfl⟩))
  refine bodyPost_ret (v := .agg #[.int .i64 (0), .int .i64 (mvi v 7 5 0), .int .i64 (mvi v 15 5 0), .int .i64 (0), .int .i64 (mvi v 20 5 0)]) (by simp [results, Try.results127, go_sem]) rfl ⟨E.out, ?_⟩
  first | exact (Below.refl _ _).alloc (Nat.le_refl _) _ | exact ((Below.refl _ _).alloc (Nat.le_refl _) _).alloc (by simp) _
theorem immS (v : Int) (hv : 0 ≤ v ∧ v ≤ 4294967295) : sxi (bits .or .u32 (mvi v 7 5 0) (mvi v 25 7 5)) 12 = sg (v / 128 % 32 + v / 33554432 % 128 * 32) 2048 4096 := by
  simp only [mvi_7_5_0, mvi_25_7_5]
  rw [orIS _ _ (by omega) (by omega)]
  rw [sxi_12 _ (by omega)]
  rfl
set_option maxHeartbeats 1000000 in
theorem instS (o f v : Int) (w : World) (hv : 0 ≤ v ∧ v ≤ 4294967295) :
    Calls Try.prog 125 #[.agg #[.int .u32 o, .int .u32 f], .int .u32 v] w fun e w' => e = .returned (.agg #[.int .i64 (0), .int .i64 (0), .int .i64 (v / 32768 % 32), .int .i64 (v / 1048576 % 32), .int .i64 (sg (v / 128 % 32 + v / 33554432 % 128 * 32) 2048 4096)]) ∧ Below w.heap.size w w' := by
  have E : Hid ((Ending.returned (.agg #[.int .i64 (0), .int .i64 (0), .int .i64 (mvi v 15 5 0), .int .i64 (mvi v 20 5 0), .int .i64 (sxi (bits .or .u32 (mvi v 7 5 0) (mvi v 25 7 5)) 12)]) : Ending) = .returned (.agg #[.int .i64 (0), .int .i64 (0), .int .i64 (v / 32768 % 32), .int .i64 (v / 1048576 % 32), .int .i64 (sg (v / 128 % 32 + v / 33554432 % 128 * 32) 2048 4096)])) := by rw [immS v hv, mvi_15_5_0, mvi_20_5_0]; exact Eq.refl _
  go_enter Try.func125, Try.ntmps125
  go_wp2_with (first
    | (go_at_call 110; refine (takeRd_any _ _ hv).mono ?_; rintro e w' ⟨rfl, rfl⟩)
    | (go_at_call 118; refine (takeRs1_any _ _ hv).mono ?_; rintro e w' ⟨rfl, rfl⟩)
    | (go_at_call 123; refine (takeRs2_any _ _ hv).mono ?_; rintro e w' ⟨rfl, rfl⟩)
    | (go_at_call 115; refine (sx_any _ _ _ (by first | exact mvi_bd _ _ _ _ | exact or_bd _ _) (by omega)).mono ?_; rintro e w' ⟨rfl, rfl⟩)
    | (go_at_call 111; refine (move_any _ _ _ _ _ hv (by omega) (by omega) (by omega)).mono ?_; rintro e w' ⟨rfl, rfl⟩))
  refine bodyPost_ret (v := .agg #[.int .i64 (0), .int .i64 (0), .int .i64 (mvi v 15 5 0), .int .i64 (mvi v 20 5 0), .int .i64 (sxi (bits .or .u32 (mvi v 7 5 0) (mvi v 25 7 5)) 12)]) (by simp [results, Try.results125, go_sem]) rfl ⟨E.out, ?_⟩
  first | exact (Below.refl _ _).alloc (Nat.le_refl _) _ | exact ((Below.refl _ _).alloc (Nat.le_refl _) _).alloc (by simp) _
theorem immB (v : Int) (hv : 0 ≤ v ∧ v ≤ 4294967295) : sxi (bits .or .u32 (bits .or .u32 (bits .or .u32 (mvi v 7 1 11) (mvi v 8 4 1)) (mvi v 25 6 5)) (mvi v 31 1 12)) 13 = sg (v / 256 % 16 * 2 + v / 33554432 % 64 * 32 + v / 128 % 2 * 2048 + v / 2147483648 % 2 * 4096) 4096 8192 := by
  simp only [mvi_7_1_11, mvi_8_4_1, mvi_25_6_5, mvi_31_1_12]
  rw [orIB _ _ _ _ (by omega) (by omega) (by omega) (by omega)]
  rw [sxi_13 _ (by omega)]
  rfl
set_option maxHeartbeats 1000000 in
theorem instB (o f v : Int) (w : World) (hv : 0 ≤ v ∧ v ≤ 4294967295) :
    Calls Try.prog 121 #[.agg #[.int .u32 o, .int .u32 f], .int .u32 v] w fun e w' => e = .returned (.agg #[.int .i64 (0), .int .i64 (0), .int .i64 (v / 32768 % 32), .int .i64 (v / 1048576 % 32), .int .i64 (sg (v / 256 % 16 * 2 + v / 33554432 % 64 * 32 + v / 128 % 2 * 2048 + v / 2147483648 % 2 * 4096) 4096 8192)]) ∧ Below w.heap.size w w' := by
  have E : Hid ((Ending.returned (.agg #[.int .i64 (0), .int .i64 (0), .int .i64 (mvi v 15 5 0), .int .i64 (mvi v 20 5 0), .int .i64 (sxi (bits .or .u32 (bits .or .u32 (bits .or .u32 (mvi v 7 1 11) (mvi v 8 4 1)) (mvi v 25 6 5)) (mvi v 31 1 12)) 13)]) : Ending) = .returned (.agg #[.int .i64 (0), .int .i64 (0), .int .i64 (v / 32768 % 32), .int .i64 (v / 1048576 % 32), .int .i64 (sg (v / 256 % 16 * 2 + v / 33554432 % 64 * 32 + v / 128 % 2 * 2048 + v / 2147483648 % 2 * 4096) 4096 8192)])) := by rw [immB v hv, mvi_15_5_0, mvi_20_5_0]; exact Eq.refl _
  go_enter Try.func121, Try.ntmps121
  go_wp2_with (first
    | (go_at_call 110; refine (takeRd_any _ _ hv).mono ?_; rintro e w' ⟨rfl, rfl⟩)
    | (go_at_call 118; refine (takeRs1_any _ _ hv).mono ?_; rintro e w' ⟨rfl, rfl⟩)
    | (go_at_call 123; refine (takeRs2_any _ _ hv).mono ?_; rintro e w' ⟨rfl, rfl⟩)
    | (go_at_call 115; refine (sx_any _ _ _ (by first | exact mvi_bd _ _ _ _ | exact or_bd _ _) (by omega)).mono ?_; rintro e w' ⟨rfl, rfl⟩)
    | (go_at_call 111; refine (move_any _ _ _ _ _ hv (by omega) (by omega) (by omega)).mono ?_; rintro e w' ⟨rfl, rfl⟩))
  refine bodyPost_ret (v := .agg #[.int .i64 (0), .int .i64 (0), .int .i64 (mvi v 15 5 0), .int .i64 (mvi v 20 5 0), .int .i64 (sxi (bits .or .u32 (bits .or .u32 (bits .or .u32 (mvi v 7 1 11) (mvi v 8 4 1)) (mvi v 25 6 5)) (mvi v 31 1 12)) 13)]) (by simp [results, Try.results121, go_sem]) rfl ⟨E.out, ?_⟩
  first | exact (Below.refl _ _).alloc (Nat.le_refl _) _ | exact ((Below.refl _ _).alloc (Nat.le_refl _) _).alloc (by simp) _
theorem immU (v : Int) (hv : 0 ≤ v ∧ v ≤ 4294967295) : mvi v 12 20 0 = v / 4096 % 1048576 := by
  simp only [mvi_12_20_0]
set_option maxHeartbeats 1000000 in
theorem instU (o v : Int) (w : World) (hv : 0 ≤ v ∧ v ≤ 4294967295) :
    Calls Try.prog 108 #[.agg #[.int .u32 o], .int .u32 v] w fun e w' => e = .returned (.agg #[.int .i64 (0), .int .i64 (v / 128 % 32), .int .i64 (0), .int .i64 (0), .int .i64 (v / 4096 % 1048576)]) ∧ Below w.heap.size w w' := by
  have hbm := mvi_bd v 12 20 0
  have E : Hid ((Ending.returned (.agg #[.int .i64 (0), .int .i64 (mvi v 7 5 0), .int .i64 (0), .int .i64 (0), .int .i64 (mvi v 12 20 0)]) : Ending) = .returned (.agg #[.int .i64 (0), .int .i64 (v / 128 % 32), .int .i64 (0), .int .i64 (0), .int .i64 (v / 4096 % 1048576)])) := by rw [immU v hv, mvi_7_5_0]; exact Eq.refl _
  go_enter Try.func108, Try.ntmps108
  go_wp2_with (first
    | (go_at_call 110; refine (takeRd_any _ _ hv).mono ?_; rintro e w' ⟨rfl, rfl⟩)
    | (go_at_call 118; refine (takeRs1_any _ _ hv).mono ?_; rintro e w' ⟨rfl, rfl⟩)
    | (go_at_call 123; refine (takeRs2_any _ _ hv).mono ?_; rintro e w' ⟨rfl, rfl⟩)
    | (go_at_call 115; refine (sx_any _ _ _ (by first | exact mvi_bd _ _ _ _ | exact or_bd _ _) (by omega)).mono ?_; rintro e w' ⟨rfl, rfl⟩)
    | (go_at_call 111; refine (move_any _ _ _ _ _ hv (by omega) (by omega) (by omega)).mono ?_; rintro e w' ⟨rfl, rfl⟩))
  refine bodyPost_ret (v := .agg #[.int .i64 (0), .int .i64 (mvi v 7 5 0), .int .i64 (0), .int .i64 (0), .int .i64 (mvi v 12 20 0)]) (by simp [results, Try.results108, go_sem]) rfl ⟨E.out, ?_⟩
  first | exact (Below.refl _ _).alloc (Nat.le_refl _) _ | exact ((Below.refl _ _).alloc (Nat.le_refl _) _).alloc (by simp) _
theorem immJ (v : Int) (hv : 0 ≤ v ∧ v ≤ 4294967295) : sxi (bits .or .u32 (bits .or .u32 (bits .or .u32 (mvi v 12 8 12) (mvi v 20 1 11)) (mvi v 21 10 1)) (mvi v 31 1 20)) 21 = sg (v / 2097152 % 1024 * 2 + v / 1048576 % 2 * 2048 + v / 4096 % 256 * 4096 + v / 2147483648 % 2 * 1048576) 1048576 2097152 := by
  simp only [mvi_12_8_12, mvi_20_1_11, mvi_21_10_1, mvi_31_1_20]
  rw [orIJ _ _ _ _ (by omega) (by omega) (by omega) (by omega)]
  rw [sxi_21 _ (by omega)]
  rfl
set_option maxHeartbeats 1000000 in
theorem instJ (o v : Int) (w : World) (hv : 0 ≤ v ∧ v ≤ 4294967295) :
    Calls Try.prog 113 #[.agg #[.int .u32 o], .int .u32 v] w fun e w' => e = .returned (.agg #[.int .i64 (0), .int .i64 (v / 128 % 32), .int .i64 (0), .int .i64 (0), .int .i64 (sg (v / 2097152 % 1024 * 2 + v / 1048576 % 2 * 2048 + v / 4096 % 256 * 4096 + v / 2147483648 % 2 * 1048576) 1048576 2097152)]) ∧ Below w.heap.size w w' := by
  have E : Hid ((Ending.returned (.agg #[.int .i64 (0), .int .i64 (mvi v 7 5 0), .int .i64 (0), .int .i64 (0), .int .i64 (sxi (bits .or .u32 (bits .or .u32 (bits .or .u32 (mvi v 12 8 12) (mvi v 20 1 11)) (mvi v 21 10 1)) (mvi v 31 1 20)) 21)]) : Ending) = .returned (.agg #[.int .i64 (0), .int .i64 (v / 128 % 32), .int .i64 (0), .int .i64 (0), .int .i64 (sg (v / 2097152 % 1024 * 2 + v / 1048576 % 2 * 2048 + v / 4096 % 256 * 4096 + v / 2147483648 % 2 * 1048576) 1048576 2097152)])) := by rw [immJ v hv, mvi_7_5_0]; exact Eq.refl _
  go_enter Try.func113, Try.ntmps113
  go_wp2_with (first
    | (go_at_call 110; refine (takeRd_any _ _ hv).mono ?_; rintro e w' ⟨rfl, rfl⟩)
    | (go_at_call 118; refine (takeRs1_any _ _ hv).mono ?_; rintro e w' ⟨rfl, rfl⟩)
    | (go_at_call 123; refine (takeRs2_any _ _ hv).mono ?_; rintro e w' ⟨rfl, rfl⟩)
    | (go_at_call 115; refine (sx_any _ _ _ (by first | exact mvi_bd _ _ _ _ | exact or_bd _ _) (by omega)).mono ?_; rintro e w' ⟨rfl, rfl⟩)
    | (go_at_call 111; refine (move_any _ _ _ _ _ hv (by omega) (by omega) (by omega)).mono ?_; rintro e w' ⟨rfl, rfl⟩))
  refine bodyPost_ret (v := .agg #[.int .i64 (0), .int .i64 (mvi v 7 5 0), .int .i64 (0), .int .i64 (0), .int .i64 (sxi (bits .or .u32 (bits .or .u32 (bits .or .u32 (mvi v 12 8 12) (mvi v 20 1 11)) (mvi v 21 10 1)) (mvi v 31 1 20)) 21)]) (by simp [results, Try.results113, go_sem]) rfl ⟨E.out, ?_⟩
  first | exact (Below.refl _ _).alloc (Nat.le_refl _) _ | exact ((Below.refl _ _).alloc (Nat.le_refl _) _).alloc (by simp) _
set_option maxHeartbeats 1000000 in
theorem instE (o v : Int) (w : World) (hv : 0 ≤ v ∧ v ≤ 4294967295) :
    Calls Try.prog 131 #[.agg #[.int .u32 o], .int .u32 v] w fun e w' => e = .returned (.agg #[.int .i64 (0), .int .i64 (0), .int .i64 (0), .int .i64 (0), .int .i64 (0)]) ∧ Below w.heap.size w w' := by
  have E : Hid ((Ending.returned (.agg #[.int .i64 (0), .int .i64 (0), .int .i64 (0), .int .i64 (0), .int .i64 (0)]) : Ending) = .returned (.agg #[.int .i64 (0), .int .i64 (0), .int .i64 (0), .int .i64 (0), .int .i64 (0)])) := by exact Eq.refl _
  go_enter Try.func131, Try.ntmps131
  go_wp2_with (first
    | (go_at_call 110; refine (takeRd_any _ _ hv).mono ?_; rintro e w' ⟨rfl, rfl⟩)
    | (go_at_call 118; refine (takeRs1_any _ _ hv).mono ?_; rintro e w' ⟨rfl, rfl⟩)
    | (go_at_call 123; refine (takeRs2_any _ _ hv).mono ?_; rintro e w' ⟨rfl, rfl⟩)
    | (go_at_call 115; refine (sx_any _ _ _ (by first | exact mvi_bd _ _ _ _ | exact or_bd _ _) (by omega)).mono ?_; rintro e w' ⟨rfl, rfl⟩)
    | (go_at_call 111; refine (move_any _ _ _ _ _ hv (by omega) (by omega) (by omega)).mono ?_; rintro e w' ⟨rfl, rfl⟩))
  refine bodyPost_ret (v := .agg #[.int .i64 (0), .int .i64 (0), .int .i64 (0), .int .i64 (0), .int .i64 (0)]) (by simp [results, Try.results131, go_sem]) rfl ⟨rfl, ?_⟩
  first | exact (Below.refl _ _).alloc (Nat.le_refl _) _ | exact ((Below.refl _ _).alloc (Nat.le_refl _) _).alloc (by simp) _
end Go.Proofs.Ytabjcodpagjbjaa
