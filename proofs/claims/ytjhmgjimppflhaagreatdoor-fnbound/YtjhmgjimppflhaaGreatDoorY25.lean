import Derived.Test.YtjhmgjimppflhaaGreatDoorRows
import Derived.Test.YtjhmgjimppflhaaGreatDoorY19
import Derived.WalkKit
import Derived.WalkSpells
import Derived.ProofKit
import Derived.Deep.RegionHeld
import Derived.Lib.ItoaNum
import Derived.Lib.ConvBytes
set_option linter.unusedSectionVars false
variable [Inhabited Go.Proofs.YtjhmgjimppflhaaGreatDoor.Pick]
namespace Go.Proofs.YtjhmgjimppflhaaGreatDoor
set_option linter.unusedVariables false
set_option linter.unusedSimpArgs false
set_option maxRecDepth 100000
set_option maxHeartbeats 16000000
section
open Go.RowKit
theorem conv2 (m : Nat) (W : World) (b : Nat) (h : W.cell? ⟨b, 0, none⟩ = some (.int .u8 (48 + (m : Int) % 10))) : (convert 22 9 (.slice (some ⟨b, 0, none⟩) 1 1)).run Tryz.prog W = .ok (.string ⟨#[dig m]⟩) W := by
 refine run_convert_bytes_back (P := Tryz.prog) W 22 9 5 ⟨b, 0, none⟩ 1 [dig m] Tryz.underlying22 Tryz.underlying5 Tryz.underlying9 (fun j hj => ?_)
 obtain rfl : j = 0 := by simpa using hj
 have e : (((dig m).toNat : Nat) : Int) = 48 + (m : Int) % 10 := by rw [dig_toNat]; omega
 simp [Addr.add, e, h]
theorem dec_len (N : Nat) : ∀ u, u ≤ N → (Lib.decDigits u).length ≤ u + 1 := by
 induction N with
 | zero =>
  intro u h
  rw [Lib.decDigits, dif_pos (by omega)]
  simp
 | succ n ih =>
  intro u h
  rw [Lib.decDigits]
  split
  ·simp
  ·have := ih (u / 10) (by omega)
   simp only [List.length_append, List.length_cons, List.length_nil]
   omega
set_option maxRecDepth 100000 in
set_option maxHeartbeats 600000 in
theorem digN_any (N : Nat) : ∀ u, u ≤ N → (u : Int) ≤ 2147483648 → ∀ w : World, Calls Tryz.prog 44 #[.int .i64 u] w fun e w' => e = .returned (.string (tx (Lib.decDigits u))) ∧ Below w.heap.size w w' := by
 induction N with
 | zero =>
  intro u hu hb w
  obtain rfl : u = 0 := by omega
  have hcv := conv2 0 (w.alloc (.cells #[.int .u8 48] 5)) w.heap.size (by simp)
  go_enter Tryz.func44, Tryz.ntmps44
  go_wp2_with fail
  go_ret
  exact ⟨ret_str (by rw [Lib.decDigits]; simp [tx, dig]), (Below.refl _ _).alloc (Nat.le_refl _) _⟩
 | succ n ih =>
  intro u hu hb w
  have HI : Hid (∀ u, u ≤ n → (u : Int) ≤ 2147483648 → ∀ w : World, Calls Tryz.prog 44 #[.int .i64 u] w fun e w' => e = .returned (.string (tx (Lib.decDigits u))) ∧ Below w.heap.size w w') := ih
  clear ih
  by_cases h10 : u < 10
  ·have hcv := conv2 u (w.alloc (.cells #[.int .u8 (48 + (u : Int))] 5)) w.heap.size (by simp; omega)
   have HD : Hid (Lib.decDigits u = [dig u]) := by
    show _ = _
    rw [Lib.decDigits, dif_pos h10, dig, Nat.mod_eq_of_lt h10]
   go_enter Tryz.func44, Tryz.ntmps44
   go_wp2_with fail
   go_ret
   exact ⟨ret_str (by rw [HD.out]; rfl), (Below.refl _ _).alloc (Nat.le_refl _) _⟩
  ·have HD : Hid (Lib.decDigits u = Lib.decDigits (u / 10) ++ [dig u]) := by
    show _ = _
    rw [Lib.decDigits, dif_neg h10]
    rfl
   have hI : ∀ w : World, Calls Tryz.prog 44 #[.int .i64 ((u : Int) / 10)] w fun e w' => e = .returned (.string (tx (Lib.decDigits (u / 10)))) ∧ Below w.heap.size w w' := by
    have e1 : (u : Int) / 10 = ((u / 10 : Nat) : Int) := by omega
    rw [e1]
    exact HI.out (u / 10) (by omega) (by omega)
   have HI2 : Hid _ := hI
   clear hI
   have hsz : ((tx (Lib.decDigits (u / 10))).size : Int) ≤ 1000000000 := by
    rw [tx_size]
    have := dec_len (u / 10) (u / 10) (Nat.le_refl _)
    omega
   have hE : tx (Lib.decDigits (u / 10)) ++ (⟨#[dig u]⟩ : ByteArray) = tx (Lib.decDigits (u / 10) ++ [dig u]) := tx_append _ [dig u]
   have HE : Hid _ := hE
   clear hE
   generalize hA : tx (Lib.decDigits (u / 10)) = A at *
   have hcv := conv2 u
   have h1c : (⟨#[dig u]⟩ : ByteArray).size = 1 := rfl
   have ht : (u : Int).tmod 10 = (u : Int) % 10 := Int.tmod_eq_emod_of_nonneg (by omega)
   have hw1 : IntKind.i64.wrap ((u : Int) / 10) = (u : Int) / 10 := by simp [IntKind.wrap, IntKind.bits, IntKind.signed]; omega
   have hw2 : IntKind.i64.wrap ((u : Int) % 10) = (u : Int) % 10 := by simp [IntKind.wrap, IntKind.bits, IntKind.signed]; omega
   have hw3 : IntKind.i64.wrap (48 + (u : Int) % 10) = 48 + (u : Int) % 10 := by simp [IntKind.wrap, IntKind.bits, IntKind.signed]; omega
   have hw4 : IntKind.u8.wrap (48 + (u : Int) % 10) = 48 + (u : Int) % 10 := by simp [IntKind.wrap, IntKind.bits, IntKind.signed]; omega
   go_enter Tryz.func44, Tryz.ntmps44
   go_wp2_with fail
   go_region_held (fun _ => True) (exact trivial)
    (first
    | (with_reducible refine Calls.mono (HI2.out _) ?_; rintro e w2 ⟨rfl, hb2⟩; simp only [World.size_drew, World.size_alloc] at hb2; have q2 := fun h => hb2.cell (p := ⟨w.heap.size, 0, none⟩) h))
   all_goals go_wp2_with fail
   all_goals go_ret
   all_goals refine ⟨ret_str (by rw [HE.out, HD.out]), ?_⟩
   ·exact ((Below.refl _ _).drew.trans hb2).alloc hb2.size _
   ·exact ((Below.refl _ _).drew.alloc (by simp) _).trans (hb2.mono (by omega))
   ·exact ((Below.refl _ _).drew.alloc (by simp) _).trans (hb2.mono (by omega))
end
end Go.Proofs.YtjhmgjimppflhaaGreatDoor
