import Derived.WalkKit
import Derived.RowKit
namespace Go.Proofs.Ytplkgkgekgdnmaa
open Go.RowKit

theorem and_mask (v : Int) (f c : Nat) (h0 : 0 ≤ v) (h1 : v ≤ 4294967295) (hc : c ≤ 31) : bits .and .u32 (v / 2 ^ f) ((2 ^ c - 1) % 4294967296) = v / 2 ^ f % 2 ^ c := by
  obtain ⟨V, rfl⟩ := Int.eq_ofNat_of_zero_le h0
  have e1 : ((V : Int) / 2 ^ f) = ((V / 2 ^ f : Nat) : Int) := by simp
  have hp : 2 ^ c ≤ 2 ^ 31 := Nat.pow_le_pow_right (by decide) hc
  have hp0 : 0 < 2 ^ c := Nat.pow_pos (by decide)
  have e2 : (((2 : Int) ^ c - 1) % 4294967296) = ((2 ^ c - 1 : Nat) : Int) := by
    have : ((2 : Int) ^ c) = ((2 ^ c : Nat) : Int) := by simp
    rw [this]; omega
  have hV : V / 2 ^ f < 4294967296 := Nat.lt_of_le_of_lt (Nat.div_le_self _ _) (by omega)
  rw [e1, e2, u32_and_nat _ _ hV (by omega), Nat.and_two_pow_sub_one_eq_mod]
  simp

theorem or2 (a b : Nat) (ha : a < 4294967296) (hb : b < 4294967296) : bits .or .u32 (a : Int) (b : Int) = ((a ||| b : Nat) : Int) ∧ a ||| b < 4294967296 :=
  ⟨u32_or_nat a b ha hb, Nat.or_lt_two_pow (n := 32) ha hb⟩

theorem or_hi (i a b : Nat) (h : b < 2 ^ i) : 2 ^ i * a ||| b = 2 ^ i * a + b := (Nat.two_pow_add_eq_or_of_lt h a).symm

theorem orFb (o f g : Int) (ho : 0 ≤ o ∧ o ≤ 127) (hf : 0 ≤ f ∧ f ≤ 7) (hg : 0 ≤ g ∧ g ≤ 127) :
    bits .or .u32 (bits .or .u32 o (f * 4096)) (g * 33554432) =
      o + f * 4096 + g * 33554432 := by
  obtain ⟨O, rfl⟩ := Int.eq_ofNat_of_zero_le ho.1
  obtain ⟨F, rfl⟩ := Int.eq_ofNat_of_zero_le hf.1
  obtain ⟨G, rfl⟩ := Int.eq_ofNat_of_zero_le hg.1
  have l0 : ((O : Int) : Int) = ((O : Nat) : Int) := by
    omega
  have b0 : O < 4294967296 := by
    omega
  have l1 : ((F : Int) * 4096 : Int) = ((2 ^ 12 * F : Nat) : Int) := by
    omega
  have b1 : 2 ^ 12 * F < 4294967296 := by
    omega
  have l2 : ((G : Int) * 33554432 : Int) = ((2 ^ 25 * G : Nat) : Int) := by
    omega
  have b2 : 2 ^ 25 * G < 4294967296 := by
    omega
  rw [l0]
  rw [l1]
  rw [l2]
  have a1 := or2 (O) (2 ^ 12 * F) b0 b1
  rw [a1.1]
  have a2 := or2 _ (2 ^ 25 * G) a1.2 b2
  rw [a2.1]
  have e : (((O) ||| (2 ^ 12 * F)) ||| (2 ^ 25 * G)) = (2 ^ 25 * G ||| (2 ^ 12 * F ||| O)) := by ac_rfl
  rw [e, or_hi 12 F _ (by omega), or_hi 25 G _ (by omega)]
  omega
theorem orFb0 (o f : Int) (ho : 0 ≤ o ∧ o ≤ 127) (hf : 0 ≤ f ∧ f ≤ 7) :
    bits .or .u32 o (f * 4096) =
      o + f * 4096 := by
  obtain ⟨O, rfl⟩ := Int.eq_ofNat_of_zero_le ho.1
  obtain ⟨F, rfl⟩ := Int.eq_ofNat_of_zero_le hf.1
  have l0 : ((O : Int) : Int) = ((O : Nat) : Int) := by
    omega
  have b0 : O < 4294967296 := by
    omega
  have l1 : ((F : Int) * 4096 : Int) = ((2 ^ 12 * F : Nat) : Int) := by
    omega
  have b1 : 2 ^ 12 * F < 4294967296 := by
    omega
  rw [l0]
  rw [l1]
  have a1 := or2 (O) (2 ^ 12 * F) b0 b1
  rw [a1.1]
  have e : ((O) ||| (2 ^ 12 * F)) = (2 ^ 12 * F ||| O) := by ac_rfl
  rw [e, or_hi 12 F _ (by omega)]
  omega
theorem orR (o f g r s t : Int) (ho : 0 ≤ o ∧ o ≤ 127) (hf : 0 ≤ f ∧ f ≤ 7) (hg : 0 ≤ g ∧ g ≤ 127) (hr : 0 ≤ r ∧ r ≤ 31) (hs : 0 ≤ s ∧ s ≤ 31) (ht : 0 ≤ t ∧ t ≤ 31) :
    bits .or .u32 (bits .or .u32 (bits .or .u32 (o + f * 4096 + g * 33554432) (r * 128)) (s * 32768)) (t * 1048576) =
      o + r * 128 + f * 4096 + s * 32768 + t * 1048576 + g * 33554432 := by
  obtain ⟨O, rfl⟩ := Int.eq_ofNat_of_zero_le ho.1
  obtain ⟨F, rfl⟩ := Int.eq_ofNat_of_zero_le hf.1
  obtain ⟨G, rfl⟩ := Int.eq_ofNat_of_zero_le hg.1
  obtain ⟨R, rfl⟩ := Int.eq_ofNat_of_zero_le hr.1
  obtain ⟨S, rfl⟩ := Int.eq_ofNat_of_zero_le hs.1
  obtain ⟨T, rfl⟩ := Int.eq_ofNat_of_zero_le ht.1
  have l0 : ((O : Int) + (F : Int) * 4096 + (G : Int) * 33554432 : Int) = (((2 ^ 25 * G ||| (2 ^ 12 * F ||| O)) : Nat) : Int) := by
    rw [or_hi 12 F _ (by omega), or_hi 25 G _ (by omega)]
    omega
  have b0 : (2 ^ 25 * G ||| (2 ^ 12 * F ||| O)) < 4294967296 := by
    rw [or_hi 12 F _ (by omega), or_hi 25 G _ (by omega)]
    omega
  have l1 : ((R : Int) * 128 : Int) = ((2 ^ 7 * R : Nat) : Int) := by
    omega
  have b1 : 2 ^ 7 * R < 4294967296 := by
    omega
  have l2 : ((S : Int) * 32768 : Int) = ((2 ^ 15 * S : Nat) : Int) := by
    omega
  have b2 : 2 ^ 15 * S < 4294967296 := by
    omega
  have l3 : ((T : Int) * 1048576 : Int) = ((2 ^ 20 * T : Nat) : Int) := by
    omega
  have b3 : 2 ^ 20 * T < 4294967296 := by
    omega
  rw [l0]
  rw [l1]
  rw [l2]
  rw [l3]
  have a1 := or2 ((2 ^ 25 * G ||| (2 ^ 12 * F ||| O))) (2 ^ 7 * R) b0 b1
  rw [a1.1]
  have a2 := or2 _ (2 ^ 15 * S) a1.2 b2
  rw [a2.1]
  have a3 := or2 _ (2 ^ 20 * T) a2.2 b3
  rw [a3.1]
  have e : ((((2 ^ 25 * G ||| (2 ^ 12 * F ||| O)) ||| (2 ^ 7 * R)) ||| (2 ^ 15 * S)) ||| (2 ^ 20 * T)) = (2 ^ 25 * G ||| (2 ^ 20 * T ||| (2 ^ 15 * S ||| (2 ^ 12 * F ||| (2 ^ 7 * R ||| O))))) := by ac_rfl
  rw [e, or_hi 7 R _ (by omega), or_hi 12 F _ (by omega), or_hi 15 S _ (by omega), or_hi 20 T _ (by omega), or_hi 25 G _ (by omega)]
  omega
theorem orI (o f r s i : Int) (ho : 0 ≤ o ∧ o ≤ 127) (hf : 0 ≤ f ∧ f ≤ 7) (hr : 0 ≤ r ∧ r ≤ 31) (hs : 0 ≤ s ∧ s ≤ 31) (hi : 0 ≤ i ∧ i ≤ 4095) :
    bits .or .u32 (bits .or .u32 (bits .or .u32 (o + f * 4096) (r * 128)) (s * 32768)) (i * 1048576) =
      o + r * 128 + f * 4096 + s * 32768 + i * 1048576 := by
  obtain ⟨O, rfl⟩ := Int.eq_ofNat_of_zero_le ho.1
  obtain ⟨F, rfl⟩ := Int.eq_ofNat_of_zero_le hf.1
  obtain ⟨R, rfl⟩ := Int.eq_ofNat_of_zero_le hr.1
  obtain ⟨S, rfl⟩ := Int.eq_ofNat_of_zero_le hs.1
  obtain ⟨I, rfl⟩ := Int.eq_ofNat_of_zero_le hi.1
  have l0 : ((O : Int) + (F : Int) * 4096 : Int) = (((2 ^ 12 * F ||| O) : Nat) : Int) := by
    rw [or_hi 12 F _ (by omega)]
    omega
  have b0 : (2 ^ 12 * F ||| O) < 4294967296 := by
    rw [or_hi 12 F _ (by omega)]
    omega
  have l1 : ((R : Int) * 128 : Int) = ((2 ^ 7 * R : Nat) : Int) := by
    omega
  have b1 : 2 ^ 7 * R < 4294967296 := by
    omega
  have l2 : ((S : Int) * 32768 : Int) = ((2 ^ 15 * S : Nat) : Int) := by
    omega
  have b2 : 2 ^ 15 * S < 4294967296 := by
    omega
  have l3 : ((I : Int) * 1048576 : Int) = ((2 ^ 20 * I : Nat) : Int) := by
    omega
  have b3 : 2 ^ 20 * I < 4294967296 := by
    omega
  rw [l0]
  rw [l1]
  rw [l2]
  rw [l3]
  have a1 := or2 ((2 ^ 12 * F ||| O)) (2 ^ 7 * R) b0 b1
  rw [a1.1]
  have a2 := or2 _ (2 ^ 15 * S) a1.2 b2
  rw [a2.1]
  have a3 := or2 _ (2 ^ 20 * I) a2.2 b3
  rw [a3.1]
  have e : ((((2 ^ 12 * F ||| O) ||| (2 ^ 7 * R)) ||| (2 ^ 15 * S)) ||| (2 ^ 20 * I)) = (2 ^ 20 * I ||| (2 ^ 15 * S ||| (2 ^ 12 * F ||| (2 ^ 7 * R ||| O)))) := by ac_rfl
  rw [e, or_hi 7 R _ (by omega), or_hi 12 F _ (by omega), or_hi 15 S _ (by omega), or_hi 20 I _ (by omega)]
  omega
theorem orS (o f s t i j : Int) (ho : 0 ≤ o ∧ o ≤ 127) (hf : 0 ≤ f ∧ f ≤ 7) (hs : 0 ≤ s ∧ s ≤ 31) (ht : 0 ≤ t ∧ t ≤ 31) (hi : 0 ≤ i ∧ i ≤ 31) (hj : 0 ≤ j ∧ j ≤ 127) :
    bits .or .u32 (bits .or .u32 (bits .or .u32 (bits .or .u32 (o + f * 4096) (s * 32768)) (t * 1048576)) (i * 128)) (j * 33554432) =
      o + i * 128 + f * 4096 + s * 32768 + t * 1048576 + j * 33554432 := by
  obtain ⟨O, rfl⟩ := Int.eq_ofNat_of_zero_le ho.1
  obtain ⟨F, rfl⟩ := Int.eq_ofNat_of_zero_le hf.1
  obtain ⟨S, rfl⟩ := Int.eq_ofNat_of_zero_le hs.1
  obtain ⟨T, rfl⟩ := Int.eq_ofNat_of_zero_le ht.1
  obtain ⟨I, rfl⟩ := Int.eq_ofNat_of_zero_le hi.1
  obtain ⟨J, rfl⟩ := Int.eq_ofNat_of_zero_le hj.1
  have l0 : ((O : Int) + (F : Int) * 4096 : Int) = (((2 ^ 12 * F ||| O) : Nat) : Int) := by
    rw [or_hi 12 F _ (by omega)]
    omega
  have b0 : (2 ^ 12 * F ||| O) < 4294967296 := by
    rw [or_hi 12 F _ (by omega)]
    omega
  have l1 : ((S : Int) * 32768 : Int) = ((2 ^ 15 * S : Nat) : Int) := by
    omega
  have b1 : 2 ^ 15 * S < 4294967296 := by
    omega
  have l2 : ((T : Int) * 1048576 : Int) = ((2 ^ 20 * T : Nat) : Int) := by
    omega
  have b2 : 2 ^ 20 * T < 4294967296 := by
    omega
  have l3 : ((I : Int) * 128 : Int) = ((2 ^ 7 * I : Nat) : Int) := by
    omega
  have b3 : 2 ^ 7 * I < 4294967296 := by
    omega
  have l4 : ((J : Int) * 33554432 : Int) = ((2 ^ 25 * J : Nat) : Int) := by
    omega
  have b4 : 2 ^ 25 * J < 4294967296 := by
    omega
  rw [l0]
  rw [l1]
  rw [l2]
  rw [l3]
  rw [l4]
  have a1 := or2 ((2 ^ 12 * F ||| O)) (2 ^ 15 * S) b0 b1
  rw [a1.1]
  have a2 := or2 _ (2 ^ 20 * T) a1.2 b2
  rw [a2.1]
  have a3 := or2 _ (2 ^ 7 * I) a2.2 b3
  rw [a3.1]
  have a4 := or2 _ (2 ^ 25 * J) a3.2 b4
  rw [a4.1]
  have e : (((((2 ^ 12 * F ||| O) ||| (2 ^ 15 * S)) ||| (2 ^ 20 * T)) ||| (2 ^ 7 * I)) ||| (2 ^ 25 * J)) = (2 ^ 25 * J ||| (2 ^ 20 * T ||| (2 ^ 15 * S ||| (2 ^ 12 * F ||| (2 ^ 7 * I ||| O))))) := by ac_rfl
  rw [e, or_hi 7 I _ (by omega), or_hi 12 F _ (by omega), or_hi 15 S _ (by omega), or_hi 20 T _ (by omega), or_hi 25 J _ (by omega)]
  omega
theorem orSB (i j k l : Int) (hi : 0 ≤ i ∧ i ≤ 1) (hj : 0 ≤ j ∧ j ≤ 15) (hk : 0 ≤ k ∧ k ≤ 63) (hl : 0 ≤ l ∧ l ≤ 1) :
    bits .or .u32 (bits .or .u32 (bits .or .u32 (i * 128) (j * 256)) (k * 33554432)) (l * 2147483648) =
      i * 128 + j * 256 + k * 33554432 + l * 2147483648 := by
  obtain ⟨I, rfl⟩ := Int.eq_ofNat_of_zero_le hi.1
  obtain ⟨J, rfl⟩ := Int.eq_ofNat_of_zero_le hj.1
  obtain ⟨K, rfl⟩ := Int.eq_ofNat_of_zero_le hk.1
  obtain ⟨L, rfl⟩ := Int.eq_ofNat_of_zero_le hl.1
  have l0 : ((I : Int) * 128 : Int) = ((2 ^ 7 * I : Nat) : Int) := by
    omega
  have b0 : 2 ^ 7 * I < 4294967296 := by
    omega
  have l1 : ((J : Int) * 256 : Int) = ((2 ^ 8 * J : Nat) : Int) := by
    omega
  have b1 : 2 ^ 8 * J < 4294967296 := by
    omega
  have l2 : ((K : Int) * 33554432 : Int) = ((2 ^ 25 * K : Nat) : Int) := by
    omega
  have b2 : 2 ^ 25 * K < 4294967296 := by
    omega
  have l3 : ((L : Int) * 2147483648 : Int) = ((2 ^ 31 * L : Nat) : Int) := by
    omega
  have b3 : 2 ^ 31 * L < 4294967296 := by
    omega
  rw [l0]
  rw [l1]
  rw [l2]
  rw [l3]
  have a1 := or2 (2 ^ 7 * I) (2 ^ 8 * J) b0 b1
  rw [a1.1]
  have a2 := or2 _ (2 ^ 25 * K) a1.2 b2
  rw [a2.1]
  have a3 := or2 _ (2 ^ 31 * L) a2.2 b3
  rw [a3.1]
  have e : ((((2 ^ 7 * I) ||| (2 ^ 8 * J)) ||| (2 ^ 25 * K)) ||| (2 ^ 31 * L)) = (2 ^ 31 * L ||| (2 ^ 25 * K ||| (2 ^ 8 * J ||| 2 ^ 7 * I))) := by ac_rfl
  rw [e, or_hi 8 J _ (by omega), or_hi 25 K _ (by omega), or_hi 31 L _ (by omega)]
  omega
theorem orB (o f s t i j k l : Int) (ho : 0 ≤ o ∧ o ≤ 127) (hf : 0 ≤ f ∧ f ≤ 7) (hs : 0 ≤ s ∧ s ≤ 31) (ht : 0 ≤ t ∧ t ≤ 31) (hi : 0 ≤ i ∧ i ≤ 1) (hj : 0 ≤ j ∧ j ≤ 15) (hk : 0 ≤ k ∧ k ≤ 63) (hl : 0 ≤ l ∧ l ≤ 1) :
    bits .or .u32 (bits .or .u32 (bits .or .u32 (o + f * 4096) (s * 32768)) (t * 1048576)) (i * 128 + j * 256 + k * 33554432 + l * 2147483648) =
      o + i * 128 + j * 256 + f * 4096 + s * 32768 + t * 1048576 + k * 33554432 + l * 2147483648 := by
  obtain ⟨O, rfl⟩ := Int.eq_ofNat_of_zero_le ho.1
  obtain ⟨F, rfl⟩ := Int.eq_ofNat_of_zero_le hf.1
  obtain ⟨S, rfl⟩ := Int.eq_ofNat_of_zero_le hs.1
  obtain ⟨T, rfl⟩ := Int.eq_ofNat_of_zero_le ht.1
  obtain ⟨I, rfl⟩ := Int.eq_ofNat_of_zero_le hi.1
  obtain ⟨J, rfl⟩ := Int.eq_ofNat_of_zero_le hj.1
  obtain ⟨K, rfl⟩ := Int.eq_ofNat_of_zero_le hk.1
  obtain ⟨L, rfl⟩ := Int.eq_ofNat_of_zero_le hl.1
  have l0 : ((O : Int) + (F : Int) * 4096 : Int) = (((2 ^ 12 * F ||| O) : Nat) : Int) := by
    rw [or_hi 12 F _ (by omega)]
    omega
  have b0 : (2 ^ 12 * F ||| O) < 4294967296 := by
    rw [or_hi 12 F _ (by omega)]
    omega
  have l1 : ((S : Int) * 32768 : Int) = ((2 ^ 15 * S : Nat) : Int) := by
    omega
  have b1 : 2 ^ 15 * S < 4294967296 := by
    omega
  have l2 : ((T : Int) * 1048576 : Int) = ((2 ^ 20 * T : Nat) : Int) := by
    omega
  have b2 : 2 ^ 20 * T < 4294967296 := by
    omega
  have l3 : ((I : Int) * 128 + (J : Int) * 256 + (K : Int) * 33554432 + (L : Int) * 2147483648 : Int) = (((2 ^ 31 * L ||| (2 ^ 25 * K ||| (2 ^ 8 * J ||| 2 ^ 7 * I))) : Nat) : Int) := by
    rw [or_hi 8 J _ (by omega), or_hi 25 K _ (by omega), or_hi 31 L _ (by omega)]
    omega
  have b3 : (2 ^ 31 * L ||| (2 ^ 25 * K ||| (2 ^ 8 * J ||| 2 ^ 7 * I))) < 4294967296 := by
    rw [or_hi 8 J _ (by omega), or_hi 25 K _ (by omega), or_hi 31 L _ (by omega)]
    omega
  rw [l0]
  rw [l1]
  rw [l2]
  rw [l3]
  have a1 := or2 ((2 ^ 12 * F ||| O)) (2 ^ 15 * S) b0 b1
  rw [a1.1]
  have a2 := or2 _ (2 ^ 20 * T) a1.2 b2
  rw [a2.1]
  have a3 := or2 _ ((2 ^ 31 * L ||| (2 ^ 25 * K ||| (2 ^ 8 * J ||| 2 ^ 7 * I)))) a2.2 b3
  rw [a3.1]
  have e : ((((2 ^ 12 * F ||| O) ||| (2 ^ 15 * S)) ||| (2 ^ 20 * T)) ||| (2 ^ 31 * L ||| (2 ^ 25 * K ||| (2 ^ 8 * J ||| 2 ^ 7 * I)))) = (2 ^ 31 * L ||| (2 ^ 25 * K ||| (2 ^ 20 * T ||| (2 ^ 15 * S ||| (2 ^ 12 * F ||| (2 ^ 8 * J ||| (2 ^ 7 * I ||| O))))))) := by ac_rfl
  rw [e, or_hi 7 I _ (by omega), or_hi 8 J _ (by omega), or_hi 12 F _ (by omega), or_hi 15 S _ (by omega), or_hi 20 T _ (by omega), or_hi 25 K _ (by omega), or_hi 31 L _ (by omega)]
  omega
theorem orU (o r i : Int) (ho : 0 ≤ o ∧ o ≤ 127) (hr : 0 ≤ r ∧ r ≤ 31) (hi : 0 ≤ i ∧ i ≤ 1048575) :
    bits .or .u32 (bits .or .u32 o (r * 128)) (i * 4096) =
      o + r * 128 + i * 4096 := by
  obtain ⟨O, rfl⟩ := Int.eq_ofNat_of_zero_le ho.1
  obtain ⟨R, rfl⟩ := Int.eq_ofNat_of_zero_le hr.1
  obtain ⟨I, rfl⟩ := Int.eq_ofNat_of_zero_le hi.1
  have l0 : ((O : Int) : Int) = ((O : Nat) : Int) := by
    omega
  have b0 : O < 4294967296 := by
    omega
  have l1 : ((R : Int) * 128 : Int) = ((2 ^ 7 * R : Nat) : Int) := by
    omega
  have b1 : 2 ^ 7 * R < 4294967296 := by
    omega
  have l2 : ((I : Int) * 4096 : Int) = ((2 ^ 12 * I : Nat) : Int) := by
    omega
  have b2 : 2 ^ 12 * I < 4294967296 := by
    omega
  rw [l0]
  rw [l1]
  rw [l2]
  have a1 := or2 (O) (2 ^ 7 * R) b0 b1
  rw [a1.1]
  have a2 := or2 _ (2 ^ 12 * I) a1.2 b2
  rw [a2.1]
  have e : (((O) ||| (2 ^ 7 * R)) ||| (2 ^ 12 * I)) = (2 ^ 12 * I ||| (2 ^ 7 * R ||| O)) := by ac_rfl
  rw [e, or_hi 7 R _ (by omega), or_hi 12 I _ (by omega)]
  omega
theorem orSJ (i j k l : Int) (hi : 0 ≤ i ∧ i ≤ 255) (hj : 0 ≤ j ∧ j ≤ 1) (hk : 0 ≤ k ∧ k ≤ 1023) (hl : 0 ≤ l ∧ l ≤ 1) :
    bits .or .u32 (bits .or .u32 (bits .or .u32 (i * 4096) (j * 1048576)) (k * 2097152)) (l * 2147483648) =
      i * 4096 + j * 1048576 + k * 2097152 + l * 2147483648 := by
  obtain ⟨I, rfl⟩ := Int.eq_ofNat_of_zero_le hi.1
  obtain ⟨J, rfl⟩ := Int.eq_ofNat_of_zero_le hj.1
  obtain ⟨K, rfl⟩ := Int.eq_ofNat_of_zero_le hk.1
  obtain ⟨L, rfl⟩ := Int.eq_ofNat_of_zero_le hl.1
  have l0 : ((I : Int) * 4096 : Int) = ((2 ^ 12 * I : Nat) : Int) := by
    omega
  have b0 : 2 ^ 12 * I < 4294967296 := by
    omega
  have l1 : ((J : Int) * 1048576 : Int) = ((2 ^ 20 * J : Nat) : Int) := by
    omega
  have b1 : 2 ^ 20 * J < 4294967296 := by
    omega
  have l2 : ((K : Int) * 2097152 : Int) = ((2 ^ 21 * K : Nat) : Int) := by
    omega
  have b2 : 2 ^ 21 * K < 4294967296 := by
    omega
  have l3 : ((L : Int) * 2147483648 : Int) = ((2 ^ 31 * L : Nat) : Int) := by
    omega
  have b3 : 2 ^ 31 * L < 4294967296 := by
    omega
  rw [l0]
  rw [l1]
  rw [l2]
  rw [l3]
  have a1 := or2 (2 ^ 12 * I) (2 ^ 20 * J) b0 b1
  rw [a1.1]
  have a2 := or2 _ (2 ^ 21 * K) a1.2 b2
  rw [a2.1]
  have a3 := or2 _ (2 ^ 31 * L) a2.2 b3
  rw [a3.1]
  have e : ((((2 ^ 12 * I) ||| (2 ^ 20 * J)) ||| (2 ^ 21 * K)) ||| (2 ^ 31 * L)) = (2 ^ 31 * L ||| (2 ^ 21 * K ||| (2 ^ 20 * J ||| 2 ^ 12 * I))) := by ac_rfl
  rw [e, or_hi 20 J _ (by omega), or_hi 21 K _ (by omega), or_hi 31 L _ (by omega)]
  omega
theorem orJ (o r i j k l : Int) (ho : 0 ≤ o ∧ o ≤ 127) (hr : 0 ≤ r ∧ r ≤ 31) (hi : 0 ≤ i ∧ i ≤ 255) (hj : 0 ≤ j ∧ j ≤ 1) (hk : 0 ≤ k ∧ k ≤ 1023) (hl : 0 ≤ l ∧ l ≤ 1) :
    bits .or .u32 (bits .or .u32 o (r * 128)) (i * 4096 + j * 1048576 + k * 2097152 + l * 2147483648) =
      o + r * 128 + i * 4096 + j * 1048576 + k * 2097152 + l * 2147483648 := by
  obtain ⟨O, rfl⟩ := Int.eq_ofNat_of_zero_le ho.1
  obtain ⟨R, rfl⟩ := Int.eq_ofNat_of_zero_le hr.1
  obtain ⟨I, rfl⟩ := Int.eq_ofNat_of_zero_le hi.1
  obtain ⟨J, rfl⟩ := Int.eq_ofNat_of_zero_le hj.1
  obtain ⟨K, rfl⟩ := Int.eq_ofNat_of_zero_le hk.1
  obtain ⟨L, rfl⟩ := Int.eq_ofNat_of_zero_le hl.1
  have l0 : ((O : Int) : Int) = ((O : Nat) : Int) := by
    omega
  have b0 : O < 4294967296 := by
    omega
  have l1 : ((R : Int) * 128 : Int) = ((2 ^ 7 * R : Nat) : Int) := by
    omega
  have b1 : 2 ^ 7 * R < 4294967296 := by
    omega
  have l2 : ((I : Int) * 4096 + (J : Int) * 1048576 + (K : Int) * 2097152 + (L : Int) * 2147483648 : Int) = (((2 ^ 31 * L ||| (2 ^ 21 * K ||| (2 ^ 20 * J ||| 2 ^ 12 * I))) : Nat) : Int) := by
    rw [or_hi 20 J _ (by omega), or_hi 21 K _ (by omega), or_hi 31 L _ (by omega)]
    omega
  have b2 : (2 ^ 31 * L ||| (2 ^ 21 * K ||| (2 ^ 20 * J ||| 2 ^ 12 * I))) < 4294967296 := by
    rw [or_hi 20 J _ (by omega), or_hi 21 K _ (by omega), or_hi 31 L _ (by omega)]
    omega
  rw [l0]
  rw [l1]
  rw [l2]
  have a1 := or2 (O) (2 ^ 7 * R) b0 b1
  rw [a1.1]
  have a2 := or2 _ ((2 ^ 31 * L ||| (2 ^ 21 * K ||| (2 ^ 20 * J ||| 2 ^ 12 * I)))) a1.2 b2
  rw [a2.1]
  have e : (((O) ||| (2 ^ 7 * R)) ||| (2 ^ 31 * L ||| (2 ^ 21 * K ||| (2 ^ 20 * J ||| 2 ^ 12 * I)))) = (2 ^ 31 * L ||| (2 ^ 21 * K ||| (2 ^ 20 * J ||| (2 ^ 12 * I ||| (2 ^ 7 * R ||| O))))) := by ac_rfl
  rw [e, or_hi 7 R _ (by omega), or_hi 12 I _ (by omega), or_hi 20 J _ (by omega), or_hi 21 K _ (by omega), or_hi 31 L _ (by omega)]
  omega
theorem orIS (i j : Int) (hi : 0 ≤ i ∧ i ≤ 31) (hj : 0 ≤ j ∧ j ≤ 127) :
    bits .or .u32 i (j * 32) =
      i + j * 32 := by
  obtain ⟨I, rfl⟩ := Int.eq_ofNat_of_zero_le hi.1
  obtain ⟨J, rfl⟩ := Int.eq_ofNat_of_zero_le hj.1
  have l0 : ((I : Int) : Int) = ((I : Nat) : Int) := by
    omega
  have b0 : I < 4294967296 := by
    omega
  have l1 : ((J : Int) * 32 : Int) = ((2 ^ 5 * J : Nat) : Int) := by
    omega
  have b1 : 2 ^ 5 * J < 4294967296 := by
    omega
  rw [l0]
  rw [l1]
  have a1 := or2 (I) (2 ^ 5 * J) b0 b1
  rw [a1.1]
  have e : ((I) ||| (2 ^ 5 * J)) = (2 ^ 5 * J ||| I) := by ac_rfl
  rw [e, or_hi 5 J _ (by omega)]
  omega
theorem orIB (i j k l : Int) (hi : 0 ≤ i ∧ i ≤ 1) (hj : 0 ≤ j ∧ j ≤ 15) (hk : 0 ≤ k ∧ k ≤ 63) (hl : 0 ≤ l ∧ l ≤ 1) :
    bits .or .u32 (bits .or .u32 (bits .or .u32 (i * 2048) (j * 2)) (k * 32)) (l * 4096) =
      j * 2 + k * 32 + i * 2048 + l * 4096 := by
  obtain ⟨I, rfl⟩ := Int.eq_ofNat_of_zero_le hi.1
  obtain ⟨J, rfl⟩ := Int.eq_ofNat_of_zero_le hj.1
  obtain ⟨K, rfl⟩ := Int.eq_ofNat_of_zero_le hk.1
  obtain ⟨L, rfl⟩ := Int.eq_ofNat_of_zero_le hl.1
  have l0 : ((I : Int) * 2048 : Int) = ((2 ^ 11 * I : Nat) : Int) := by
    omega
  have b0 : 2 ^ 11 * I < 4294967296 := by
    omega
  have l1 : ((J : Int) * 2 : Int) = ((2 ^ 1 * J : Nat) : Int) := by
    omega
  have b1 : 2 ^ 1 * J < 4294967296 := by
    omega
  have l2 : ((K : Int) * 32 : Int) = ((2 ^ 5 * K : Nat) : Int) := by
    omega
  have b2 : 2 ^ 5 * K < 4294967296 := by
    omega
  have l3 : ((L : Int) * 4096 : Int) = ((2 ^ 12 * L : Nat) : Int) := by
    omega
  have b3 : 2 ^ 12 * L < 4294967296 := by
    omega
  rw [l0]
  rw [l1]
  rw [l2]
  rw [l3]
  have a1 := or2 (2 ^ 11 * I) (2 ^ 1 * J) b0 b1
  rw [a1.1]
  have a2 := or2 _ (2 ^ 5 * K) a1.2 b2
  rw [a2.1]
  have a3 := or2 _ (2 ^ 12 * L) a2.2 b3
  rw [a3.1]
  have e : ((((2 ^ 11 * I) ||| (2 ^ 1 * J)) ||| (2 ^ 5 * K)) ||| (2 ^ 12 * L)) = (2 ^ 12 * L ||| (2 ^ 11 * I ||| (2 ^ 5 * K ||| 2 ^ 1 * J))) := by ac_rfl
  rw [e, or_hi 5 K _ (by omega), or_hi 11 I _ (by omega), or_hi 12 L _ (by omega)]
  omega
theorem orIJ (i j k l : Int) (hi : 0 ≤ i ∧ i ≤ 255) (hj : 0 ≤ j ∧ j ≤ 1) (hk : 0 ≤ k ∧ k ≤ 1023) (hl : 0 ≤ l ∧ l ≤ 1) :
    bits .or .u32 (bits .or .u32 (bits .or .u32 (i * 4096) (j * 2048)) (k * 2)) (l * 1048576) =
      k * 2 + j * 2048 + i * 4096 + l * 1048576 := by
  obtain ⟨I, rfl⟩ := Int.eq_ofNat_of_zero_le hi.1
  obtain ⟨J, rfl⟩ := Int.eq_ofNat_of_zero_le hj.1
  obtain ⟨K, rfl⟩ := Int.eq_ofNat_of_zero_le hk.1
  obtain ⟨L, rfl⟩ := Int.eq_ofNat_of_zero_le hl.1
  have l0 : ((I : Int) * 4096 : Int) = ((2 ^ 12 * I : Nat) : Int) := by
    omega
  have b0 : 2 ^ 12 * I < 4294967296 := by
    omega
  have l1 : ((J : Int) * 2048 : Int) = ((2 ^ 11 * J : Nat) : Int) := by
    omega
  have b1 : 2 ^ 11 * J < 4294967296 := by
    omega
  have l2 : ((K : Int) * 2 : Int) = ((2 ^ 1 * K : Nat) : Int) := by
    omega
  have b2 : 2 ^ 1 * K < 4294967296 := by
    omega
  have l3 : ((L : Int) * 1048576 : Int) = ((2 ^ 20 * L : Nat) : Int) := by
    omega
  have b3 : 2 ^ 20 * L < 4294967296 := by
    omega
  rw [l0]
  rw [l1]
  rw [l2]
  rw [l3]
  have a1 := or2 (2 ^ 12 * I) (2 ^ 11 * J) b0 b1
  rw [a1.1]
  have a2 := or2 _ (2 ^ 1 * K) a1.2 b2
  rw [a2.1]
  have a3 := or2 _ (2 ^ 20 * L) a2.2 b3
  rw [a3.1]
  have e : ((((2 ^ 12 * I) ||| (2 ^ 11 * J)) ||| (2 ^ 1 * K)) ||| (2 ^ 20 * L)) = (2 ^ 20 * L ||| (2 ^ 12 * I ||| (2 ^ 11 * J ||| 2 ^ 1 * K))) := by ac_rfl
  rw [e, or_hi 11 J _ (by omega), or_hi 12 I _ (by omega), or_hi 20 L _ (by omega)]
  omega
end Go.Proofs.Ytplkgkgekgdnmaa
