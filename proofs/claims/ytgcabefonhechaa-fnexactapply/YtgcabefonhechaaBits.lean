import Derived.WalkKit
import Derived.RowKit
namespace Go.Proofs.Ytgcabefonhechaa
open Go.RowKit

theorem w32_bd (a : Int) : -2147483648 ≤ wrap32 a ∧ wrap32 a ≤ 2147483647 := by unfold wrap32; omega
theorem w32_id (a : Int) (h : -2147483648 ≤ a ∧ a ≤ 2147483647) : wrap32 a = a := by unfold wrap32; omega
theorem w32_64 (a : Int) : wrap32 (wrap64 a) = wrap32 a := by unfold wrap32 wrap64; omega

theorem ofInt64 (x : Int) (h : -2147483648 ≤ x ∧ x ≤ 2147483647) : BitVec.ofInt 64 x = (BitVec.ofInt 32 x).signExtend 64 := by
  apply BitVec.eq_of_toInt_eq
  rw [BitVec.toInt_signExtend_of_le (by decide), BitVec.toInt_ofInt, BitVec.toInt_ofInt]
  rw [Int.bmod_eq_of_le (by omega) (by omega), Int.bmod_eq_of_le (by omega) (by omega)]

theorem wrap_toNat32 (v : BitVec 32) : IntKind.i32.wrap (v.toNat : Int) = v.toInt := by
  have := v.isLt
  rw [IntKind.wrap_i32, BitVec.toInt_eq_toNat_cond]
  split <;> omega

theorem wrap_toNat64 (v : BitVec 64) : IntKind.i64.wrap (v.toNat : Int) = v.toInt := by
  have := v.isLt
  rw [IntKind.wrap_i64, BitVec.toInt_eq_toNat_cond]
  split <;> omega

theorem bits_and (x y : Int) (hx : -2147483648 ≤ x ∧ x ≤ 2147483647) (hy : -2147483648 ≤ y ∧ y ≤ 2147483647) : bits .and .i64 x y = bits .and .i32 x y := by
  show IntKind.i64.wrap ((BitVec.ofInt 64 x &&& BitVec.ofInt 64 y).toNat : Int) = IntKind.i32.wrap ((BitVec.ofInt 32 x &&& BitVec.ofInt 32 y).toNat : Int)
  rw [wrap_toNat32, wrap_toNat64, ofInt64 x hx, ofInt64 y hy, ← BitVec.signExtend_and, BitVec.toInt_signExtend_of_le (by decide)]
theorem bits_or (x y : Int) (hx : -2147483648 ≤ x ∧ x ≤ 2147483647) (hy : -2147483648 ≤ y ∧ y ≤ 2147483647) : bits .or .i64 x y = bits .or .i32 x y := by
  show IntKind.i64.wrap ((BitVec.ofInt 64 x ||| BitVec.ofInt 64 y).toNat : Int) = IntKind.i32.wrap ((BitVec.ofInt 32 x ||| BitVec.ofInt 32 y).toNat : Int)
  rw [wrap_toNat32, wrap_toNat64, ofInt64 x hx, ofInt64 y hy, ← BitVec.signExtend_or, BitVec.toInt_signExtend_of_le (by decide)]
theorem bits_xor (x y : Int) (hx : -2147483648 ≤ x ∧ x ≤ 2147483647) (hy : -2147483648 ≤ y ∧ y ≤ 2147483647) : bits .xor .i64 x y = bits .xor .i32 x y := by
  show IntKind.i64.wrap ((BitVec.ofInt 64 x ^^^ BitVec.ofInt 64 y).toNat : Int) = IntKind.i32.wrap ((BitVec.ofInt 32 x ^^^ BitVec.ofInt 32 y).toNat : Int)
  rw [wrap_toNat32, wrap_toNat64, ofInt64 x hx, ofInt64 y hy, ← BitVec.signExtend_xor, BitVec.toInt_signExtend_of_le (by decide)]
theorem bits_bd (op : BinOp) (x y : Int) : -2147483648 ≤ bits op .i32 x y ∧ bits op .i32 x y ≤ 2147483647 := by
  unfold bits
  dsimp only
  rw [IntKind.wrap_i32]
  omega

theorem tdiv_bd (x y : Int) (hx : -2147483648 ≤ x ∧ x ≤ 2147483647) : -2147483648 ≤ x.tdiv y ∧ x.tdiv y ≤ 2147483648 := by
  have h : (x.tdiv y).natAbs ≤ x.natAbs := by rw [Int.natAbs_tdiv]; exact Nat.div_le_self _ _
  omega
theorem tmod_bd (x y : Int) (hx : -2147483648 ≤ x ∧ x ≤ 2147483647) : -2147483648 ≤ x.tmod y ∧ x.tmod y ≤ 2147483647 := by
  have h : (x.tmod y).natAbs ≤ x.natAbs := by rw [Int.natAbs_tmod]; exact Nat.mod_le _ _
  rcases Int.le_total 0 x with h0 | h0
  · have := Int.tmod_nonneg y h0; omega
  · obtain ⟨z, rfl⟩ : ∃ z, x = -z := ⟨-x, by omega⟩
    rw [Int.neg_tmod] at *
    have := Int.tmod_nonneg y (show 0 ≤ z by omega); omega
theorem mul_bd (x y : Int) (hx : -2147483648 ≤ x ∧ x ≤ 2147483647) (hy : -2147483648 ≤ y ∧ y ≤ 2147483647) : -4611686018427387904 ≤ x * y ∧ x * y ≤ 4611686018427387904 := by
  have h : (x * y).natAbs ≤ 2147483648 * 2147483648 := by rw [Int.natAbs_mul]; exact Nat.mul_le_mul (by omega) (by omega)
  omega
theorem sh_eq (y : Int) : y % 4294967296 % 32 = y % 32 := by omega
theorem sh_eq2 (y : Int) : (y.tmod 32 + 32) % 32 = y % 32 := by
  rcases Int.le_total 0 y with h | h
  · rw [Int.tmod_eq_emod_of_nonneg h]; omega
  · obtain ⟨z, rfl⟩ : ∃ z, y = -z := ⟨-y, by omega⟩
    rw [Int.neg_tmod, Int.tmod_eq_emod_of_nonneg (by omega)]; omega
theorem tmod32_bd (y : Int) : -31 ≤ y.tmod 32 ∧ y.tmod 32 ≤ 31 := by
  have h : (y.tmod 32).natAbs ≤ 31 := by rw [Int.natAbs_tmod]; have := Nat.mod_lt y.natAbs (show 0 < (32 : Int).natAbs by decide); simp at *; omega
  omega
theorem w64_32 (z : Int) : wrap64 (wrap32 z) = wrap32 z := by unfold wrap32 wrap64; omega
theorem tm32 (y : Int) : y.tmod 32 % 32 = y % 32 := by have := sh_eq2 y; omega
theorem w64_div (x : Int) (n : Nat) (hx : -2147483648 ≤ x ∧ x ≤ 2147483647) : wrap64 (x / 2 ^ n) = x / 2 ^ n := by
  have h := Int.natAbs_ediv_le_natAbs x (2 ^ n)
  unfold wrap64
  omega
theorem ret_int {k : IntKind} {a b : Int} (h : a = b) : Ending.returned (.int k a) = .returned (.int k b) := by rw [h]
end Go.Proofs.Ytgcabefonhechaa
