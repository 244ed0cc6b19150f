import Derived.Test.YtlamjfhhefcohaaGreatDoorM02
import Derived.Lib.ParseIntB
import Derived.Lib.Bytealg
namespace Go.Proofs.YtlamjfhhefcohaaGreatDoor
set_option linter.unusedVariables false
set_option linter.unusedSimpArgs false
set_option maxRecDepth 100000
set_option maxHeartbeats 16000000
section
theorem ix_mem : ∀ (l : List UInt8) (c : UInt8), 0 ≤ Lib.indexByte l c ↔ c ∈ l
 | [], c => by simp [Lib.indexByte]
 | b :: l, c => by
  have ih := ix_mem l c
  have hg := Lib.indexByte_ge l c
  unfold Lib.indexByte
  by_cases e : b = c
  ·subst e; simp
  ·have : (b == c) = false := by simpa using e
   simp only [this, Bool.false_eq_true, if_false]
   by_cases h1 : Lib.indexByte l c = -1
   ·simp only [h1, beq_self_eq_true, if_true]
    have : ¬ c ∈ l := fun h => by have := ih.2 h; omega
    simp [this, Ne.symm e]
   ·have h2 : (Lib.indexByte l c == -1) = false := by simpa using h1
    simp only [h2, Bool.false_eq_true, if_false]
    have : c ∈ l := ih.1 (by omega)
    simp [this]
    omega
theorem numL_acc : ∀ (l : List UInt8) (a : Nat), l.foldl (fun a c => 10 * a + (c.toNat - 48)) a ≥ a
 | [], a => Nat.le_refl _
 | c :: l, a => by
  have := numL_acc l (10 * a + (c.toNat - 48))
  simp only [List.foldl_cons]
  omega
def fdL (acc : Nat) (l : List UInt8) : Nat := l.foldl (fun a c => 10 * a + (c.toNat - 48)) acc
theorem fdL_cons (acc : Nat) (c : UInt8) (l : List UInt8) : fdL acc (c :: l) = fdL (10 * acc + (c.toNat - 48)) l := by unfold fdL; rw [List.foldl_cons]
theorem pun (M acc : Nat) : Lib.parseUintM M acc [] = .ok acc := by simp only [Lib.parseUintM]
theorem pus (M acc : Nat) (c : UInt8) (l : List UInt8) (hc : 48 ≤ c.toNat ∧ c.toNat ≤ 57) (ha : ¬ 1844674407370955162 ≤ acc) : Lib.parseUintM M acc (c :: l) = if M < 10 * acc + (c.toNat - 48) then .range else Lib.parseUintM M (10 * acc + (c.toNat - 48)) l := by
 simp only [Lib.parseUintM]
 rw [if_pos hc, if_neg ha, Nat.mul_comm acc 10]
theorem pum (M : Nat) (hM : M < 1844674407370955162) (l : List UInt8) : ∀ (acc : Nat), acc ≤ M → (∀ c ∈ l, digU c = true) →
  (fdL acc l ≤ M → Lib.parseUintM M acc l = .ok (fdL acc l)) ∧ (¬ fdL acc l ≤ M → Lib.parseUintM M acc l = .range) := by
 induction l with
 | nil =>
  intro acc h _
  refine ⟨fun _ => ?_, fun h' => absurd h h'⟩
  exact pun M acc
 | cons c l ih =>
  intro acc h hd
  have hc := hd c (by simp)
  unfold digU digitB cI at hc
  simp only [decide_eq_true_eq] at hc
  have e : acc * 10 + (c.toNat - 48) = 10 * acc + (c.toNat - 48) := by omega
  have hun := pus M acc c l (by omega) (by omega)
  rw [hun, fdL_cons]
  by_cases hm : M < 10 * acc + (c.toNat - 48)
  ·have hb : 10 * acc + (c.toNat - 48) ≤ fdL (10 * acc + (c.toNat - 48)) l := numL_acc l _
   rw [if_pos hm]
   exact ⟨fun h' => by omega, fun _ => rfl⟩
  ·rw [if_neg hm]
   exact ih _ (by omega) (fun x hx => hd x (by simp [hx]))
theorem pint {l : List UInt8} (hn : l ≠ []) (hd : ∀ c ∈ l, digU c = true) : (numL l ≤ 2147483647 → Lib.parseIntB 32 l = .ok (numL l : Int)) ∧ (¬ numL l ≤ 2147483647 → Lib.parseIntB 32 l = .range) := by
 cases l with
 | nil => exact absurd rfl hn
 | cons c r =>
  have hc := hd c (by simp)
  unfold digU digitB cI at hc
  simp only [decide_eq_true_eq] at hc
  have h43 : ¬ (c.toNat = 43 ∨ c.toNat = 45) := by omega
  have h45 : ¬ c.toNat = 45 := by omega
  have e : (2 : Nat) ^ 32 - 1 = 4294967295 := by decide
  have e2 : (2 : Nat) ^ (32 - 1) = 2147483648 := by decide
  obtain ⟨p1, p2⟩ := pum 4294967295 (by decide) (c :: r) 0 (by omega) hd
  have hu : Lib.parseIntB 32 (c :: r) = match Lib.parseUintM 4294967295 0 (c :: r) with
   | .range => .range
   | .ok u => if 2147483648 ≤ u then .range else .ok (u : Int)
   | _ => Lib.parseIntB 32 [] := by
   unfold Lib.parseIntB
   dsimp only
   rw [if_neg h43]
   unfold Lib.parseUintB
   rw [if_neg (by simp), e, e2]
   cases Lib.parseUintM 4294967295 0 (c :: r) <;> simp [h45]
  rw [hu]
  have en : fdL 0 (c :: r) = numL (c :: r) := rfl
  rw [en] at p1 p2
  generalize numL (c :: r) = N at *
  by_cases h1 : N ≤ 4294967295
  ·rw [p1 h1]
   dsimp only
   exact ⟨fun h2 => by rw [if_neg (by omega)], fun h2 => by rw [if_pos (by omega)]⟩
  ·rw [p2 h1]
   exact ⟨fun h2 => by omega, fun _ => rfl⟩
end
end Go.Proofs.YtlamjfhhefcohaaGreatDoor
