import Derived.Test.YtplkgkgekgdnmaaRows
import Derived.Test.YtplkgkgekgdnmaaPm
import Derived.WalkKit
import Derived.WalkSpells
import Derived.ProofKit
import Derived.Deep.QuietTactic
import Derived.BigQuiet
namespace Go.Proofs.Ytplkgkgekgdnmaa
open Go.RowKit
set_option linter.unusedVariables false

def mvi (v f c t : Int) : Int := v / 2 ^ f.toNat % 2 ^ c.toNat * 2 ^ t.toNat % 4294967296
def sxi (v b : Int) : Int := wrap32 (v * 2 ^ (32 - b).toNat % 4294967296) / 2 ^ (32 - b).toNat

theorem mvi_bd (v f c t : Int) : 0 ≤ mvi v f c t ∧ mvi v f c t ≤ 4294967295 := by unfold mvi; omega

theorem ret_int {k : IntKind} {a b : Int} (h : a = b) : Ending.returned (.int k a) = .returned (.int k b) := by rw [h]

theorem move_nat (v : Int) (f c t : Nat) (w : World) (h0 : 0 ≤ v) (h1 : v ≤ 4294967295) (hf : f ≤ 31) (hc : c ≤ 31) (ht : t ≤ 31) :
    Calls Try.prog 102 #[.int .u32 v, .int .u64 f, .int .u64 c, .int .u64 t] w fun e w' => e = .returned (.int .u32 (v / 2 ^ f % 2 ^ c * 2 ^ t % 4294967296)) ∧ w' = w := by
  have E : Hid _ := and_mask v f c h0 h1 hc
  go_enter Try.func102, Try.ntmps102
  go_wp2
  go_ret
  refine ⟨ret_int ?_, rfl⟩
  rw [E.out]
theorem move_any (v f c t : Int) (w : World) (h0 : 0 ≤ v ∧ v ≤ 4294967295) (hf : 0 ≤ f ∧ f ≤ 31) (hc : 0 ≤ c ∧ c ≤ 31) (ht : 0 ≤ t ∧ t ≤ 31) :
    Calls Try.prog 102 #[.int .u32 v, .int .u64 f, .int .u64 c, .int .u64 t] w fun e w' => e = .returned (.int .u32 (mvi v f c t)) ∧ w' = w := by
  obtain ⟨F, rfl⟩ := Int.eq_ofNat_of_zero_le hf.1
  obtain ⟨C, rfl⟩ := Int.eq_ofNat_of_zero_le hc.1
  obtain ⟨T, rfl⟩ := Int.eq_ofNat_of_zero_le ht.1
  exact move_nat v F C T w h0.1 h0.2 (by omega) (by omega) (by omega)

theorem w64_div (x : Int) (n : Nat) (hx : -2147483648 ≤ x ∧ x ≤ 2147483647) : wrap64 (x / 2 ^ n) = x / 2 ^ n := by
  have h := Int.natAbs_ediv_le_natAbs x (2 ^ n)
  unfold wrap64
  omega
theorem w32_bd (a : Int) : -2147483648 ≤ wrap32 a ∧ wrap32 a ≤ 2147483647 := by unfold wrap32; omega

theorem sx_nat (v : Int) (b : Nat) (w : World) (h0 : 0 ≤ v) (h1 : v ≤ 4294967295) (hf : b ≤ 31) (hf : 1 ≤ b) :
    Calls Try.prog 106 #[.int .u32 v, .int .u64 b] w fun e w' => e = .returned (.int .i64 (wrap32 (v * 2 ^ (32 - b) % 4294967296) / 2 ^ (32 - b))) ∧ w' = w := by
  go_enter Try.func106, Try.ntmps106
  go_wp2
  go_ret
  exact ⟨ret_int (w64_div _ _ (w32_bd _)), rfl⟩
theorem sx_any (v b : Int) (w : World) (h0 : 0 ≤ v ∧ v ≤ 4294967295) (hb : 1 ≤ b ∧ b ≤ 31) :
    Calls Try.prog 106 #[.int .u32 v, .int .u64 b] w fun e w' => e = .returned (.int .i64 (sxi v b)) ∧ w' = w := by
  obtain ⟨B, rfl⟩ := Int.eq_ofNat_of_zero_le (show 0 ≤ b by omega)
  have e : (32 - (B : Int)).toNat = 32 - B := by omega
  unfold sxi
  rw [e]
  exact sx_nat v B w h0.1 h0.2 (by omega) (by omega)

theorem fb_any (a b c : Int) (w : World) (h0 : 0 ≤ a ∧ a ≤ 127) (h2 : 0 ≤ b ∧ b ≤ 7) (h4 : 0 ≤ c ∧ c ≤ 127) :
    Calls Try.prog 110 #[.int .u32 a, .int .u32 b, .int .u32 c] w fun e w' => e = .returned (.int .u32 (a + b * 4096 + c * 33554432)) ∧ w' = w := by
  have E : Hid _ := orFb a b c h0 h2 h4
  go_enter Try.func110, Try.ntmps110
  go_wp2
  go_ret
  exact ⟨ret_int E.out, rfl⟩
theorem mvi_0_5_7 (v : Int) : mvi v 0 5 7 = v % 32 * 128 := by unfold mvi; simp only [Int.reducePow, Int.reduceToNat]; omega
theorem mvi_0_5_15 (v : Int) : mvi v 0 5 15 = v % 32 * 32768 := by unfold mvi; simp only [Int.reducePow, Int.reduceToNat]; omega
theorem mvi_0_5_20 (v : Int) : mvi v 0 5 20 = v % 32 * 1048576 := by unfold mvi; simp only [Int.reducePow, Int.reduceToNat]; omega
theorem mvi_0_12_20 (v : Int) : mvi v 0 12 20 = v % 4096 * 1048576 := by unfold mvi; simp only [Int.reducePow, Int.reduceToNat]; omega
theorem mvi_0_20_12 (v : Int) : mvi v 0 20 12 = v % 1048576 * 4096 := by unfold mvi; simp only [Int.reducePow, Int.reduceToNat]; omega
theorem mvi_1_4_8 (v : Int) : mvi v 1 4 8 = v / 2 % 16 * 256 := by unfold mvi; simp only [Int.reducePow, Int.reduceToNat]; omega
theorem mvi_1_10_21 (v : Int) : mvi v 1 10 21 = v / 2 % 1024 * 2097152 := by unfold mvi; simp only [Int.reducePow, Int.reduceToNat]; omega
theorem mvi_5_6_25 (v : Int) : mvi v 5 6 25 = v / 32 % 64 * 33554432 := by unfold mvi; simp only [Int.reducePow, Int.reduceToNat]; omega
theorem mvi_5_7_25 (v : Int) : mvi v 5 7 25 = v / 32 % 128 * 33554432 := by unfold mvi; simp only [Int.reducePow, Int.reduceToNat]; omega
theorem mvi_7_1_11 (v : Int) : mvi v 7 1 11 = v / 128 % 2 * 2048 := by unfold mvi; simp only [Int.reducePow, Int.reduceToNat]; omega
theorem mvi_7_5_0 (v : Int) : mvi v 7 5 0 = v / 128 % 32 := by unfold mvi; simp only [Int.reducePow, Int.reduceToNat]; omega
theorem mvi_8_4_1 (v : Int) : mvi v 8 4 1 = v / 256 % 16 * 2 := by unfold mvi; simp only [Int.reducePow, Int.reduceToNat]; omega
theorem mvi_11_1_7 (v : Int) : mvi v 11 1 7 = v / 2048 % 2 * 128 := by unfold mvi; simp only [Int.reducePow, Int.reduceToNat]; omega
theorem mvi_11_1_20 (v : Int) : mvi v 11 1 20 = v / 2048 % 2 * 1048576 := by unfold mvi; simp only [Int.reducePow, Int.reduceToNat]; omega
theorem mvi_12_1_31 (v : Int) : mvi v 12 1 31 = v / 4096 % 2 * 2147483648 := by unfold mvi; simp only [Int.reducePow, Int.reduceToNat]; omega
theorem mvi_12_8_12 (v : Int) : mvi v 12 8 12 = v / 4096 % 256 * 4096 := by unfold mvi; simp only [Int.reducePow, Int.reduceToNat]; omega
theorem mvi_12_20_0 (v : Int) : mvi v 12 20 0 = v / 4096 % 1048576 := by unfold mvi; simp only [Int.reducePow, Int.reduceToNat]; omega
theorem mvi_15_5_0 (v : Int) : mvi v 15 5 0 = v / 32768 % 32 := by unfold mvi; simp only [Int.reducePow, Int.reduceToNat]; omega
theorem mvi_20_1_11 (v : Int) : mvi v 20 1 11 = v / 1048576 % 2 * 2048 := by unfold mvi; simp only [Int.reducePow, Int.reduceToNat]; omega
theorem mvi_20_1_31 (v : Int) : mvi v 20 1 31 = v / 1048576 % 2 * 2147483648 := by unfold mvi; simp only [Int.reducePow, Int.reduceToNat]; omega
theorem mvi_20_5_0 (v : Int) : mvi v 20 5 0 = v / 1048576 % 32 := by unfold mvi; simp only [Int.reducePow, Int.reduceToNat]; omega
theorem mvi_20_12_0 (v : Int) : mvi v 20 12 0 = v / 1048576 % 4096 := by unfold mvi; simp only [Int.reducePow, Int.reduceToNat]; omega
theorem mvi_21_10_1 (v : Int) : mvi v 21 10 1 = v / 2097152 % 1024 * 2 := by unfold mvi; simp only [Int.reducePow, Int.reduceToNat]; omega
theorem mvi_25_6_5 (v : Int) : mvi v 25 6 5 = v / 33554432 % 64 * 32 := by unfold mvi; simp only [Int.reducePow, Int.reduceToNat]; omega
theorem mvi_25_7_5 (v : Int) : mvi v 25 7 5 = v / 33554432 % 128 * 32 := by unfold mvi; simp only [Int.reducePow, Int.reduceToNat]; omega
theorem mvi_31_1_12 (v : Int) : mvi v 31 1 12 = v / 2147483648 % 2 * 4096 := by unfold mvi; simp only [Int.reducePow, Int.reduceToNat]; omega
theorem mvi_31_1_20 (v : Int) : mvi v 31 1 20 = v / 2147483648 % 2 * 1048576 := by unfold mvi; simp only [Int.reducePow, Int.reduceToNat]; omega
theorem sxi_12 (v : Int) (h : 0 ≤ v ∧ v ≤ 4095) : sxi v 12 = if v ≥ 2048 then v - 4096 else v := by
  unfold sxi wrap32
  simp only [Int.reduceSub, Int.reduceToNat, Int.reducePow]
  split <;> omega
theorem sxi_13 (v : Int) (h : 0 ≤ v ∧ v ≤ 8191) : sxi v 13 = if v ≥ 4096 then v - 8192 else v := by
  unfold sxi wrap32
  simp only [Int.reduceSub, Int.reduceToNat, Int.reducePow]
  split <;> omega
theorem sxi_21 (v : Int) (h : 0 ≤ v ∧ v ≤ 2097151) : sxi v 21 = if v ≥ 1048576 then v - 2097152 else v := by
  unfold sxi wrap32
  simp only [Int.reduceSub, Int.reduceToNat, Int.reducePow]
  split <;> omega
end Go.Proofs.Ytplkgkgekgdnmaa
