import Derived.WalkKit
import Derived.WalkSpells
import Derived.ProofKit
import Derived.Test.YtolkpkklinoegaaDoorM03
namespace Go.Proofs.YtolkpkklinoegaaDoor
set_option linter.unusedVariables false
set_option linter.unusedSimpArgs false
set_option maxRecDepth 100000
set_option maxHeartbeats 16000000
section
open Go.RowKit
theorem ret_str {a b : ByteArray} (h : a = b) : Ending.returned (.string a) = .returned (.string b) := by rw [h]
def dig (m : Nat) : UInt8 := UInt8.ofNat (48 + m % 10)
theorem dig_toNat (m : Nat) : (dig m).toNat = 48 + m % 10 := by
 unfold dig
 simp only [UInt8.toNat_ofNat']
 omega
def tx (l : List UInt8) : ByteArray := ⟨l.toArray⟩
theorem tx_size (l : List UInt8) : (tx l).size = l.length := by simp [tx, ByteArray.size]
theorem tx_append (a b : List UInt8) : tx a ++ tx b = tx (a ++ b) := by
 apply ByteArray.ext
 simp [tx]
theorem tx_back (s : ByteArray) : tx s.data.toList = s := by
 apply ByteArray.ext
 simp [tx]
theorem tx_len (s : ByteArray) : s.data.toList.length = s.size := Array.length_toList
end
section
open Go.RowKit Ap
def apN (op a b : Int) : Int :=
 if op = 0 then (wrap32 (wrap32 a * wrap32 b))
 else if op = 1 then (if wrap32 b = 0 then (-1) else (wrap32 ((wrap32 a).tdiv (wrap32 b))))
 else if op = 2 then (if wrap32 b = 0 then (wrap32 a) else ((wrap32 a).tmod (wrap32 b)))
 else if op = 3 then (wrap32 (wrap32 a + wrap32 b))
 else if op = 4 then (wrap32 (wrap32 a - wrap32 b))
 else if op = 5 then (wrap32 (wrap32 a * 2 ^ (wrap32 b % 32).toNat))
 else if op = 6 then (wrap32 a / 2 ^ (wrap32 b % 32).toNat)
 else if op = 7 then (if wrap32 a < wrap32 b then (1) else (0))
 else if op = 8 then (if wrap32 a ≤ wrap32 b then (1) else (0))
 else if op = 9 then (if wrap32 b < wrap32 a then (1) else (0))
 else if op = 10 then (if wrap32 b ≤ wrap32 a then (1) else (0))
 else if op = 11 then (if wrap32 a = wrap32 b then (1) else (0))
 else if op = 12 then (if wrap32 a ≠ wrap32 b then (1) else (0))
 else if op = 13 then (bits .and .i32 (wrap32 a) (wrap32 b))
 else if op = 14 then (bits .xor .i32 (wrap32 a) (wrap32 b))
 else if op = 15 then (bits .or .i32 (wrap32 a) (wrap32 b))
 else 0
theorem ap_i (op a b : Int) (w : World) : Calls Tryd.prog 60 #[.int .i64 op, .int .i64 a, .int .i64 b] w fun e w' => e = .returned (.int .i64 (apN op a b)) ∧ w' = w := by
 by_cases h : op < 0 ∨ 15 < op
 ·have e : apN op a b = 0 := by unfold apN; rw [if_neg (by omega)]; rw [if_neg (by omega)]; rw [if_neg (by omega)]; rw [if_neg (by omega)]; rw [if_neg (by omega)]; rw [if_neg (by omega)]; rw [if_neg (by omega)]; rw [if_neg (by omega)]; rw [if_neg (by omega)]; rw [if_neg (by omega)]; rw [if_neg (by omega)]; rw [if_neg (by omega)]; rw [if_neg (by omega)]; rw [if_neg (by omega)]; rw [if_neg (by omega)]; rw [if_neg (by omega)]
  rw [e]; exact iN op a b w h
 ·have hop : op = 0 ∨ op = 1 ∨ op = 2 ∨ op = 3 ∨ op = 4 ∨ op = 5 ∨ op = 6 ∨ op = 7 ∨ op = 8 ∨ op = 9 ∨ op = 10 ∨ op = 11 ∨ op = 12 ∨ op = 13 ∨ op = 14 ∨ op = 15 := by omega
  clear h
  rcases hop with rfl | rfl | rfl | rfl | rfl | rfl | rfl | rfl | rfl | rfl | rfl | rfl | rfl | rfl | rfl | rfl
  ·exact i0 a b w
  ·by_cases h : wrap32 b = 0
   ·have e : apN 1 a b = (-1) := by simp [apN, h]
    rw [e]; exact i1z a b w h
   ·have e : apN 1 a b = (wrap32 ((wrap32 a).tdiv (wrap32 b))) := by simp [apN, h]
    rw [e]; exact i1n a b w h
  ·by_cases h : wrap32 b = 0
   ·have e : apN 2 a b = (wrap32 a) := by simp [apN, h]
    rw [e]; exact i2z a b w h
   ·have e : apN 2 a b = ((wrap32 a).tmod (wrap32 b)) := by simp [apN, h]
    rw [e]; exact i2n a b w h
  ·exact i3 a b w
  ·exact i4 a b w
  ·exact i5 a b w
  ·exact i6 a b w
  ·by_cases h : wrap32 a < wrap32 b
   ·have e : apN 7 a b = (1) := by simp [apN, h]
    rw [e]; exact i7t a b w h
   ·have e : apN 7 a b = (0) := by simp [apN, h]
    rw [e]; exact i7f a b w h
  ·by_cases h : wrap32 a ≤ wrap32 b
   ·have e : apN 8 a b = (1) := by simp [apN, h]
    rw [e]; exact i8t a b w h
   ·have e : apN 8 a b = (0) := by simp [apN, h]
    rw [e]; exact i8f a b w h
  ·by_cases h : wrap32 b < wrap32 a
   ·have e : apN 9 a b = (1) := by simp [apN, h]
    rw [e]; exact i9t a b w h
   ·have e : apN 9 a b = (0) := by simp [apN, h]
    rw [e]; exact i9f a b w h
  ·by_cases h : wrap32 b ≤ wrap32 a
   ·have e : apN 10 a b = (1) := by simp [apN, h]
    rw [e]; exact i10t a b w h
   ·have e : apN 10 a b = (0) := by simp [apN, h]
    rw [e]; exact i10f a b w h
  ·by_cases h : wrap32 a = wrap32 b
   ·have e : apN 11 a b = (1) := by simp [apN, h]
    rw [e]; exact i11t a b w h
   ·have e : apN 11 a b = (0) := by simp [apN, h]
    rw [e]; exact i11f a b w h
  ·by_cases h : wrap32 a ≠ wrap32 b
   ·have e : apN 12 a b = (1) := by simp [apN, h]
    rw [e]; exact i12t a b w h
   ·have e : apN 12 a b = (0) := by simp [apN, h]
    rw [e]; exact i12f a b w h
  ·exact i13 a b w
  ·exact i14 a b w
  ·exact i15 a b w
theorem ap_s (op a b : Int) (w : World) : Calls Tryd.prog 46 #[.int .i64 op, .int .i64 a, .int .i64 b] w fun e w' => e = .returned (.int .i64 (apN op a b)) ∧ w' = w := by
 by_cases h : op < 0 ∨ 15 < op
 ·have e : apN op a b = 0 := by unfold apN; rw [if_neg (by omega)]; rw [if_neg (by omega)]; rw [if_neg (by omega)]; rw [if_neg (by omega)]; rw [if_neg (by omega)]; rw [if_neg (by omega)]; rw [if_neg (by omega)]; rw [if_neg (by omega)]; rw [if_neg (by omega)]; rw [if_neg (by omega)]; rw [if_neg (by omega)]; rw [if_neg (by omega)]; rw [if_neg (by omega)]; rw [if_neg (by omega)]; rw [if_neg (by omega)]; rw [if_neg (by omega)]
  rw [e]; exact sN op a b w h
 ·have hop : op = 0 ∨ op = 1 ∨ op = 2 ∨ op = 3 ∨ op = 4 ∨ op = 5 ∨ op = 6 ∨ op = 7 ∨ op = 8 ∨ op = 9 ∨ op = 10 ∨ op = 11 ∨ op = 12 ∨ op = 13 ∨ op = 14 ∨ op = 15 := by omega
  clear h
  rcases hop with rfl | rfl | rfl | rfl | rfl | rfl | rfl | rfl | rfl | rfl | rfl | rfl | rfl | rfl | rfl | rfl
  ·exact s0 a b w
  ·by_cases h : wrap32 b = 0
   ·have e : apN 1 a b = (-1) := by simp [apN, h]
    rw [e]; exact s1z a b w h
   ·have e : apN 1 a b = (wrap32 ((wrap32 a).tdiv (wrap32 b))) := by simp [apN, h]
    rw [e]; exact s1n a b w h
  ·by_cases h : wrap32 b = 0
   ·have e : apN 2 a b = (wrap32 a) := by simp [apN, h]
    rw [e]; exact s2z a b w h
   ·have e : apN 2 a b = ((wrap32 a).tmod (wrap32 b)) := by simp [apN, h]
    rw [e]; exact s2n a b w h
  ·exact s3 a b w
  ·exact s4 a b w
  ·exact s5 a b w
  ·exact s6 a b w
  ·by_cases h : wrap32 a < wrap32 b
   ·have e : apN 7 a b = (1) := by simp [apN, h]
    rw [e]; exact s7t a b w h
   ·have e : apN 7 a b = (0) := by simp [apN, h]
    rw [e]; exact s7f a b w h
  ·by_cases h : wrap32 a ≤ wrap32 b
   ·have e : apN 8 a b = (1) := by simp [apN, h]
    rw [e]; exact s8t a b w h
   ·have e : apN 8 a b = (0) := by simp [apN, h]
    rw [e]; exact s8f a b w h
  ·by_cases h : wrap32 b < wrap32 a
   ·have e : apN 9 a b = (1) := by simp [apN, h]
    rw [e]; exact s9t a b w h
   ·have e : apN 9 a b = (0) := by simp [apN, h]
    rw [e]; exact s9f a b w h
  ·by_cases h : wrap32 b ≤ wrap32 a
   ·have e : apN 10 a b = (1) := by simp [apN, h]
    rw [e]; exact s10t a b w h
   ·have e : apN 10 a b = (0) := by simp [apN, h]
    rw [e]; exact s10f a b w h
  ·by_cases h : wrap32 a = wrap32 b
   ·have e : apN 11 a b = (1) := by simp [apN, h]
    rw [e]; exact s11t a b w h
   ·have e : apN 11 a b = (0) := by simp [apN, h]
    rw [e]; exact s11f a b w h
  ·by_cases h : wrap32 a ≠ wrap32 b
   ·have e : apN 12 a b = (1) := by simp [apN, h]
    rw [e]; exact s12t a b w h
   ·have e : apN 12 a b = (0) := by simp [apN, h]
    rw [e]; exact s12f a b w h
  ·exact s13 a b w
  ·exact s14 a b w
  ·exact s15 a b w
def inB (z : Int) : Prop := -2147483648 ≤ z ∧ z ≤ 2147483647
theorem div_bd (x : Int) (n : Nat) (hx : -2147483648 ≤ x ∧ x ≤ 2147483647) : -2147483648 ≤ x / 2 ^ n ∧ x / 2 ^ n ≤ 2147483647 := by
 have hp : (0 : Int) < 2 ^ n := Int.pow_pos (by decide)
 have h1 : (1 : Int) ≤ 2 ^ n := by omega
 constructor
 ·rw [Int.le_ediv_iff_mul_le hp]
  have : (-2147483648 : Int) * 2 ^ n ≤ -2147483648 * 1 := Int.mul_le_mul_of_nonpos_left (by decide) h1
  omega
 ·have h2 : x / 2 ^ n ≤ x ∨ x / 2 ^ n < 0 := by
   by_cases hx0 : 0 ≤ x
   ·exact .inl (Int.ediv_le_self _ hx0)
   ·exact .inr (Int.ediv_neg_of_neg_of_pos (by omega) hp)
  omega
theorem ap_bd (op a b : Int) : inB (apN op a b) := by
 have ha := w32_bd a
 have hb := w32_bd b
 by_cases h : op < 0 ∨ 15 < op
 ·have e : apN op a b = 0 := by unfold apN; rw [if_neg (by omega)]; rw [if_neg (by omega)]; rw [if_neg (by omega)]; rw [if_neg (by omega)]; rw [if_neg (by omega)]; rw [if_neg (by omega)]; rw [if_neg (by omega)]; rw [if_neg (by omega)]; rw [if_neg (by omega)]; rw [if_neg (by omega)]; rw [if_neg (by omega)]; rw [if_neg (by omega)]; rw [if_neg (by omega)]; rw [if_neg (by omega)]; rw [if_neg (by omega)]; rw [if_neg (by omega)]
  rw [e]; exact ⟨by decide, by decide⟩
 ·have hop : op = 0 ∨ op = 1 ∨ op = 2 ∨ op = 3 ∨ op = 4 ∨ op = 5 ∨ op = 6 ∨ op = 7 ∨ op = 8 ∨ op = 9 ∨ op = 10 ∨ op = 11 ∨ op = 12 ∨ op = 13 ∨ op = 14 ∨ op = 15 := by omega
  clear h
  rcases hop with rfl | rfl | rfl | rfl | rfl | rfl | rfl | rfl | rfl | rfl | rfl | rfl | rfl | rfl | rfl | rfl
  ·rw [show apN 0 a b = (wrap32 (wrap32 a * wrap32 b)) by simp [apN]]; exact w32_bd _
  ·by_cases h : wrap32 b = 0
   ·rw [show apN 1 a b = (-1) by simp [apN, h]]; exact ⟨by decide, by decide⟩
   ·rw [show apN 1 a b = (wrap32 ((wrap32 a).tdiv (wrap32 b))) by simp [apN, h]]; exact w32_bd _
  ·by_cases h : wrap32 b = 0
   ·rw [show apN 2 a b = (wrap32 a) by simp [apN, h]]; exact w32_bd _
   ·rw [show apN 2 a b = ((wrap32 a).tmod (wrap32 b)) by simp [apN, h]]; exact tmod_bd _ _ ha
  ·rw [show apN 3 a b = (wrap32 (wrap32 a + wrap32 b)) by simp [apN]]; exact w32_bd _
  ·rw [show apN 4 a b = (wrap32 (wrap32 a - wrap32 b)) by simp [apN]]; exact w32_bd _
  ·rw [show apN 5 a b = (wrap32 (wrap32 a * 2 ^ (wrap32 b % 32).toNat)) by simp [apN]]; exact w32_bd _
  ·rw [show apN 6 a b = (wrap32 a / 2 ^ (wrap32 b % 32).toNat) by simp [apN]]; exact div_bd _ _ ha
  ·by_cases h : wrap32 a < wrap32 b
   ·rw [show apN 7 a b = (1) by simp [apN, h]]; exact ⟨by decide, by decide⟩
   ·rw [show apN 7 a b = (0) by simp [apN, h]]; exact ⟨by decide, by decide⟩
  ·by_cases h : wrap32 a ≤ wrap32 b
   ·rw [show apN 8 a b = (1) by simp [apN, h]]; exact ⟨by decide, by decide⟩
   ·rw [show apN 8 a b = (0) by simp [apN, h]]; exact ⟨by decide, by decide⟩
  ·by_cases h : wrap32 b < wrap32 a
   ·rw [show apN 9 a b = (1) by simp [apN, h]]; exact ⟨by decide, by decide⟩
   ·rw [show apN 9 a b = (0) by simp [apN, h]]; exact ⟨by decide, by decide⟩
  ·by_cases h : wrap32 b ≤ wrap32 a
   ·rw [show apN 10 a b = (1) by simp [apN, h]]; exact ⟨by decide, by decide⟩
   ·rw [show apN 10 a b = (0) by simp [apN, h]]; exact ⟨by decide, by decide⟩
  ·by_cases h : wrap32 a = wrap32 b
   ·rw [show apN 11 a b = (1) by simp [apN, h]]; exact ⟨by decide, by decide⟩
   ·rw [show apN 11 a b = (0) by simp [apN, h]]; exact ⟨by decide, by decide⟩
  ·by_cases h : wrap32 a ≠ wrap32 b
   ·rw [show apN 12 a b = (1) by simp [apN, h]]; exact ⟨by decide, by decide⟩
   ·rw [show apN 12 a b = (0) by simp [apN, h]]; exact ⟨by decide, by decide⟩
  ·rw [show apN 13 a b = (bits .and .i32 (wrap32 a) (wrap32 b)) by simp [apN]]; exact bits_bd _ _ _
  ·rw [show apN 14 a b = (bits .xor .i32 (wrap32 a) (wrap32 b)) by simp [apN]]; exact bits_bd _ _ _
  ·rw [show apN 15 a b = (bits .or .i32 (wrap32 a) (wrap32 b)) by simp [apN]]; exact bits_bd _ _ _
theorem ap_ne0 (a : Int) (h : -2147483648 ≤ a ∧ a ≤ 2147483647) : apN 12 a 0 = if a = 0 then 0 else 1 := by
 have e1 : wrap32 a = a := w32_id a h
 have e2 : wrap32 0 = 0 := w32_id 0 ⟨by decide, by decide⟩
 unfold apN
 simp only [e1, e2]
 by_cases h0 : a = 0 <;> simp [h0]
end
end Go.Proofs.YtolkpkklinoegaaDoor
