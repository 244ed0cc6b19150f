import Derived.Test.YtjhmgjimppflhaaGreatDoorY10
import Derived.Deep.RegionWith
import Derived.WalkSmall
import Derived.Test.YtjhmgjimppflhaaGreatDoorY09
import Derived.RegionTactic
import Derived.BigQuiet
import Derived.Lib.ConvBytes
import Derived.OwnWalk
import Derived.Laws.OwnMore
import Derived.Laws.MakeOwn
set_option linter.unusedSectionVars false
variable [Inhabited Go.Proofs.YtjhmgjimppflhaaGreatDoor.Pick]
namespace Go.Proofs.YtjhmgjimppflhaaGreatDoor
set_option linter.unusedVariables false
set_option linter.unusedSimpArgs false
set_option maxRecDepth 100000
set_option maxHeartbeats 16000000
section
open Go.RowKit
theorem ret_int {k : IntKind} {a b : Int} (h : a = b) : Ending.returned (.int k a) = .returned (.int k b) := by rw [h]
set_option maxHeartbeats 400000 in
theorem in_any (v lo hi : Int) (w : World) : Calls Tryz.prog 49 #[.int .i64 v, .int .i64 lo, .int .i64 hi] w fun e w' => e = .returned (.bool (decide (lo ≤ v ∧ v ≤ hi))) ∧ w' = w := by
 go_enter Tryz.func49, Tryz.ntmps49
 go_wp2
 all_goals go_ret
 all_goals (refine ⟨ret_bool ?_, rfl⟩; apply Bool.eq_iff_iff.2; simp <;> omega)
set_option maxHeartbeats 400000 in
theorem wrap_any (v : Int) (w : World) : Calls Tryz.prog 144 #[.int .i64 v] w fun e w' => e = .returned (.int .i64 (wrap32 v)) ∧ w' = w := by
 go_enter Tryz.func144, Tryz.ntmps144
 go_wp2
 go_ret
 exact ⟨ret_int (by unfold wrap64 wrap32; omega), rfl⟩
theorem wrap32_eq (v : Int) : v = wrap32 v ↔ -2147483648 ≤ v ∧ v ≤ 2147483647 := by
 unfold wrap32; omega
set_option maxHeartbeats 400000 in
theorem arity_any (k v : Int) (s : ByteArray) (w : World) : Calls Tryz.prog 143 #[.agg #[.int .i64 k, .int .i64 v, .string s]] w fun e w' => e = .returned (.int .i64 (arity ⟨k, v, s⟩)) ∧ Below w.heap.size w w' := by
 go_enter Tryz.func143, Tryz.ntmps143
 go_wp2
 all_goals go_ret
 all_goals (refine ⟨ret_int ?_, (Below.refl _ _).alloc (Nat.le_refl _) _⟩; simp only [beq_iff_eq, beq_eq_false_iff_ne, ne_eq] at *; (try subst k); first | (exfalso; omega) | (simp [arity, *]; done))
set_option maxHeartbeats 1000000 in
theorem gnode1 (v : Int) (s : ByteArray) (w : World) : Calls Tryz.prog 124 #[.agg #[.int .i64 1, .int .i64 v, .string s]] w fun e w' => e = .returned (.bool (nodeB ⟨1, v, s⟩)) ∧ Below w.heap.size w w' := by
 cases h : (v == wrap32 v)
 ·go_enter Tryz.func124, Tryz.ntmps124
  go_wp2_with fail
  go_quiet ((go_at_call 144; exact Calls.quiet_of_same (wrap_any _ _)))
  go_wp2_with fail
  go_ret
  exact ⟨ret_bool (by have : ¬ (v = wrap32 v) := by simpa using h
                      rw [wrap32_eq] at this
                      simp [nodeB]; omega), below_drewN ((Below.refl _ _).alloc (Nat.le_refl _) _) _⟩
 ·go_enter Tryz.func124, Tryz.ntmps124
  go_wp2_with fail
  go_quiet ((go_at_call 144; exact Calls.quiet_of_same (wrap_any _ _)))
  go_wp2_with fail
  go_ret
  exact ⟨ret_bool (by have : (v = wrap32 v) := by simpa using h
                      rw [wrap32_eq] at this
                      simp [nodeB, this]), below_drewN ((Below.refl _ _).alloc (Nat.le_refl _) _) _⟩
set_option maxHeartbeats 1000000 in
theorem gnode23 (k v : Int) (hk : k = 2 ∨ k = 3) (s : ByteArray) (w : World) : Calls Tryz.prog 124 #[.agg #[.int .i64 k, .int .i64 v, .string s]] w fun e w' => e = .returned (.bool (nodeB ⟨k, v, s⟩)) ∧ Below w.heap.size w w' := by
 by_cases h : v = 0
 ·subst h
  rcases hk with rfl | rfl
  all_goals
   go_enter Tryz.func124, Tryz.ntmps124
   go_wp2_with (go_at_call 48; refine (name_any _ _).mono ?_; rintro e w' ⟨rfl, rfl⟩)
   go_ret
   exact ⟨ret_bool (by simp [nodeB]), (Below.refl _ _).alloc (Nat.le_refl _) _⟩
 ·have h' : (v == 0) = false := by simpa using h
  rcases hk with rfl | rfl
  all_goals
   go_enter Tryz.func124, Tryz.ntmps124
   go_wp2_with fail
   go_ret
   exact ⟨ret_bool (by simp [nodeB, h]), (Below.refl _ _).alloc (Nat.le_refl _) _⟩
set_option maxHeartbeats 1000000 in
theorem gnode4 (v : Int) (s : ByteArray) (w : World) : Calls Tryz.prog 124 #[.agg #[.int .i64 4, .int .i64 v, .string s]] w fun e w' => e = .returned (.bool (nodeB ⟨4, v, s⟩)) ∧ Below w.heap.size w w' := by
 cases h : decide (0 ≤ v ∧ v ≤ 6)
 all_goals
  go_enter Tryz.func124, Tryz.ntmps124
  go_wp2_with (first | (go_at_call 49; refine (in_any _ _ _ _).mono ?_; rintro e w' ⟨rfl, rfl⟩; rw [h]) | (go_at_call 48; refine (name_any _ _).mono ?_; rintro e w' ⟨rfl, rfl⟩))
  go_ret
  exact ⟨ret_bool (by simp only [nodeB]; simp [h]), (Below.refl _ _).alloc (Nat.le_refl _) _⟩
set_option maxHeartbeats 1000000 in
theorem gnode6 (v : Int) (s : ByteArray) (w : World) : Calls Tryz.prog 124 #[.agg #[.int .i64 6, .int .i64 v, .string s]] w fun e w' => e = .returned (.bool (nodeB ⟨6, v, s⟩)) ∧ Below w.heap.size w w' := by
 cases h : decide (0 ≤ v ∧ v ≤ 2)
 all_goals
  go_enter Tryz.func124, Tryz.ntmps124
  go_wp2_with (first | (go_at_call 49; refine (in_any _ _ _ _).mono ?_; rintro e w' ⟨rfl, rfl⟩; rw [h]))
  go_ret
  exact ⟨ret_bool (by simp only [nodeB]; simp [h]), (Below.refl _ _).alloc (Nat.le_refl _) _⟩
set_option maxHeartbeats 1000000 in
theorem gnode7 (v : Int) (s : ByteArray) (w : World) : Calls Tryz.prog 124 #[.agg #[.int .i64 7, .int .i64 v, .string s]] w fun e w' => e = .returned (.bool (nodeB ⟨7, v, s⟩)) ∧ Below w.heap.size w w' := by
 cases h : decide (0 ≤ v ∧ v ≤ 15)
 all_goals
  go_enter Tryz.func124, Tryz.ntmps124
  go_wp2_with (first | (go_at_call 49; refine (in_any _ _ _ _).mono ?_; rintro e w' ⟨rfl, rfl⟩; rw [h]))
  go_ret
  exact ⟨ret_bool (by simp only [nodeB]; simp [h]), (Below.refl _ _).alloc (Nat.le_refl _) _⟩
set_option maxHeartbeats 1000000 in
theorem gnode589 (k v : Int) (hk : k = 5 ∨ k = 8 ∨ k = 9) (s : ByteArray) (w : World) : Calls Tryz.prog 124 #[.agg #[.int .i64 k, .int .i64 v, .string s]] w fun e w' => e = .returned (.bool (nodeB ⟨k, v, s⟩)) ∧ Below w.heap.size w w' := by
 by_cases h : v = 0
 ·subst h
  rcases hk with rfl | rfl | rfl
  all_goals
   go_enter Tryz.func124, Tryz.ntmps124
   go_wp2_with fail
   go_ret
   exact ⟨ret_bool (by simp [nodeB]), (Below.refl _ _).alloc (Nat.le_refl _) _⟩
 ·have h' : (v == 0) = false := by simpa using h
  rcases hk with rfl | rfl | rfl
  all_goals
   go_enter Tryz.func124, Tryz.ntmps124
   go_wp2_with fail
   go_ret
   exact ⟨ret_bool (by simp [nodeB, h]), (Below.refl _ _).alloc (Nat.le_refl _) _⟩
set_option maxHeartbeats 1000000 in
theorem gnodeX (k v : Int) (hk : k < 1 ∨ 9 < k) (s : ByteArray) (w : World) : Calls Tryz.prog 124 #[.agg #[.int .i64 k, .int .i64 v, .string s]] w fun e w' => e = .returned (.bool (nodeB ⟨k, v, s⟩)) ∧ Below w.heap.size w w' := by
 have h1 : (k == 1) = false := by simp; omega
 have h2 : (k == 2) = false := by simp; omega
 have h3 : (k == 3) = false := by simp; omega
 have h4 : (k == 4) = false := by simp; omega
 have h5 : (k == 5) = false := by simp; omega
 have h6 : (k == 6) = false := by simp; omega
 have h7 : (k == 7) = false := by simp; omega
 have h8 : (k == 8) = false := by simp; omega
 have h9 : (k == 9) = false := by simp; omega
 have hn : nodeB ⟨k, v, s⟩ = false := by
  simp at h1 h2 h3 h4 h5 h6 h7 h8 h9
  simp [nodeB, h1, h2, h3, h4, h5, h6, h7, h8, h9]
 rw [hn]
 clear hk hn
 go_enter Tryz.func124, Tryz.ntmps124
 go_wp2_with fail
 go_ret
 exact ⟨rfl, (Below.refl _ _).alloc (Nat.le_refl _) _⟩
theorem gnode_any (n : Nd) (w : World) : Calls Tryz.prog 124 #[.agg #[.int .i64 n.kind, .int .i64 n.val, .string n.name]] w fun e w' => e = .returned (.bool (nodeB n)) ∧ Below w.heap.size w w' := by
 obtain ⟨k, v, s⟩ := n
 by_cases hx : k < 1 ∨ 9 < k
 ·exact gnodeX k v hx s w
 ·have : k = 1 ∨ (k = 2 ∨ k = 3) ∨ k = 4 ∨ k = 6 ∨ k = 7 ∨ (k = 5 ∨ k = 8 ∨ k = 9) := by omega
  rcases this with rfl | h | rfl | rfl | rfl | h
  ·exact gnode1 v s w
  ·exact gnode23 k v h s w
  ·exact gnode4 v s w
  ·exact gnode6 v s w
  ·exact gnode7 v s w
  ·exact gnode589 k v h s w
end
section
open Go.RowKit
def nodeTab : List Value := [.bool false, .int .i64 0, .int .i64 0, .int .i64 0, .bool false, .int .i64 (-2147483648), .int .i64 2147483647, .int .i64 0, .bool true, .int .i64 0, .int .i64 0, .int .i64 0, .bool true, .int .i64 0, .int .i64 0, .int .i64 1, .bool true, .int .i64 0, .int .i64 6, .int .i64 0, .bool false, .int .i64 0, .int .i64 0, .int .i64 0, .bool false, .int .i64 0, .int .i64 2, .int .i64 1, .bool false, .int .i64 0, .int .i64 15, .int .i64 2, .bool false, .int .i64 0, .int .i64 0, .int .i64 2, .bool false, .int .i64 0, .int .i64 0, .int .i64 2]
def stmtTab : List Bool := [false, false, false, false, false, true, false, false, false, false, true, false, false, false, false, true, true, false, false, false, false, false, true, true, false, false, false, true, false, false, false, false, false, false, false, false, false, false, false, false, false, false, false, false, true]
structure Tab (w : World) : Prop where
 node : ∀ j, j < 40 → w.cell? ⟨2, j, none⟩ = some (nodeTab.getD j .nilFunc)
 stmt : True → ∀ j, j < 45 → w.cell? ⟨1, j, none⟩ = some (.bool (stmtTab.getD j false))
 size : 2 < w.heap.size ∧ 1 < w.heap.size
theorem Tab.below {w w' : World} {B : Nat} (h : Tab w) (hB : 2 < B ∧ 1 < B) (hb : Below B w w') : Tab w' := by
 refine ⟨fun j hj => ?_, fun ht j hj => ?_, Nat.lt_of_lt_of_le h.size.1 hb.size, Nat.lt_of_lt_of_le h.size.2 hb.size⟩
 ·rw [hb.cell hB.1]; exact h.node j hj
 ·rw [hb.cell hB.2]; exact h.stmt ht j hj
set_option maxHeartbeats 400000 in
theorem asked_yes (s : ByteArray) (w : World) : Calls Tryz.prog 116 #[.string s, .bool true] w fun e w' => e = .returned (.bool (nameB s)) ∧ Below w.heap.size w w' := by
 go_enter Tryz.func116, Tryz.ntmps116
 go_wp2_with fail
 refine (vname_any _ _).mono ?_
 rintro e w' ⟨rfl, hb⟩
 go_wp2_with fail
 go_ret
 exact ⟨rfl, hb⟩
set_option maxHeartbeats 400000 in
theorem asked_no (s : ByteArray) (w : World) : Calls Tryz.prog 116 #[.string s, .bool false] w fun e w' => e = .returned (.bool (s.toList == [])) ∧ Below w.heap.size w w' := by
 go_enter Tryz.func116, Tryz.ntmps116
 go_wp2_with fail
 go_ret
 exact ⟨by simp, Below.refl _ _⟩
theorem Tab.nodeUp {w : World} (h : Tab w) (j : Nat) (hj : j < 40) (o : Obj) : (w.alloc o).cell? ⟨2, j, none⟩ = some (nodeTab.getD j .nilFunc) :=
 (h.below h.size ((Below.refl _ _).alloc (Nat.le_refl _) o)).node j hj
theorem Tab.stmtUp {w : World} (h : Tab w) (j : Nat) (hj : j < 45) (o : Obj) (ht : True := by trivial) : (w.alloc o).cell? ⟨1, j, none⟩ = some (.bool (stmtTab.getD j false)) :=
 (h.below h.size ((Below.refl _ _).alloc (Nat.le_refl _) o)).stmt ht j hj
theorem Tab.up1 {w : World} (h : Tab w) (o : Obj) : (w.alloc o).cell? ⟨2, 4, none⟩ = some (.bool false) ∧ (w.alloc o).cell? ⟨2, 5, none⟩ = some (.int .i64 (-2147483648)) ∧ (w.alloc o).cell? ⟨2, 6, none⟩ = some (.int .i64 2147483647) ∧ (w.alloc o).cell? ⟨2, 7, none⟩ = some (.int .i64 0) := by
 exact ⟨h.nodeUp 4 (by omega) o, h.nodeUp 5 (by omega) o, h.nodeUp 6 (by omega) o, h.nodeUp 7 (by omega) o⟩
theorem Tab.up2 {w : World} (h : Tab w) (o : Obj) : (w.alloc o).cell? ⟨2, 8, none⟩ = some (.bool true) ∧ (w.alloc o).cell? ⟨2, 9, none⟩ = some (.int .i64 0) ∧ (w.alloc o).cell? ⟨2, 10, none⟩ = some (.int .i64 0) ∧ (w.alloc o).cell? ⟨2, 11, none⟩ = some (.int .i64 0) := by
 exact ⟨h.nodeUp 8 (by omega) o, h.nodeUp 9 (by omega) o, h.nodeUp 10 (by omega) o, h.nodeUp 11 (by omega) o⟩
theorem Tab.up3 {w : World} (h : Tab w) (o : Obj) : (w.alloc o).cell? ⟨2, 12, none⟩ = some (.bool true) ∧ (w.alloc o).cell? ⟨2, 13, none⟩ = some (.int .i64 0) ∧ (w.alloc o).cell? ⟨2, 14, none⟩ = some (.int .i64 0) ∧ (w.alloc o).cell? ⟨2, 15, none⟩ = some (.int .i64 1) := by
 exact ⟨h.nodeUp 12 (by omega) o, h.nodeUp 13 (by omega) o, h.nodeUp 14 (by omega) o, h.nodeUp 15 (by omega) o⟩
theorem Tab.up4 {w : World} (h : Tab w) (o : Obj) : (w.alloc o).cell? ⟨2, 16, none⟩ = some (.bool true) ∧ (w.alloc o).cell? ⟨2, 17, none⟩ = some (.int .i64 0) ∧ (w.alloc o).cell? ⟨2, 18, none⟩ = some (.int .i64 6) ∧ (w.alloc o).cell? ⟨2, 19, none⟩ = some (.int .i64 0) := by
 exact ⟨h.nodeUp 16 (by omega) o, h.nodeUp 17 (by omega) o, h.nodeUp 18 (by omega) o, h.nodeUp 19 (by omega) o⟩
theorem Tab.up5 {w : World} (h : Tab w) (o : Obj) : (w.alloc o).cell? ⟨2, 20, none⟩ = some (.bool false) ∧ (w.alloc o).cell? ⟨2, 21, none⟩ = some (.int .i64 0) ∧ (w.alloc o).cell? ⟨2, 22, none⟩ = some (.int .i64 0) ∧ (w.alloc o).cell? ⟨2, 23, none⟩ = some (.int .i64 0) := by
 exact ⟨h.nodeUp 20 (by omega) o, h.nodeUp 21 (by omega) o, h.nodeUp 22 (by omega) o, h.nodeUp 23 (by omega) o⟩
theorem Tab.up6 {w : World} (h : Tab w) (o : Obj) : (w.alloc o).cell? ⟨2, 24, none⟩ = some (.bool false) ∧ (w.alloc o).cell? ⟨2, 25, none⟩ = some (.int .i64 0) ∧ (w.alloc o).cell? ⟨2, 26, none⟩ = some (.int .i64 2) ∧ (w.alloc o).cell? ⟨2, 27, none⟩ = some (.int .i64 1) := by
 exact ⟨h.nodeUp 24 (by omega) o, h.nodeUp 25 (by omega) o, h.nodeUp 26 (by omega) o, h.nodeUp 27 (by omega) o⟩
theorem Tab.up7 {w : World} (h : Tab w) (o : Obj) : (w.alloc o).cell? ⟨2, 28, none⟩ = some (.bool false) ∧ (w.alloc o).cell? ⟨2, 29, none⟩ = some (.int .i64 0) ∧ (w.alloc o).cell? ⟨2, 30, none⟩ = some (.int .i64 15) ∧ (w.alloc o).cell? ⟨2, 31, none⟩ = some (.int .i64 2) := by
 exact ⟨h.nodeUp 28 (by omega) o, h.nodeUp 29 (by omega) o, h.nodeUp 30 (by omega) o, h.nodeUp 31 (by omega) o⟩
theorem Tab.up8 {w : World} (h : Tab w) (o : Obj) : (w.alloc o).cell? ⟨2, 32, none⟩ = some (.bool false) ∧ (w.alloc o).cell? ⟨2, 33, none⟩ = some (.int .i64 0) ∧ (w.alloc o).cell? ⟨2, 34, none⟩ = some (.int .i64 0) ∧ (w.alloc o).cell? ⟨2, 35, none⟩ = some (.int .i64 2) := by
 exact ⟨h.nodeUp 32 (by omega) o, h.nodeUp 33 (by omega) o, h.nodeUp 34 (by omega) o, h.nodeUp 35 (by omega) o⟩
theorem Tab.up9 {w : World} (h : Tab w) (o : Obj) : (w.alloc o).cell? ⟨2, 36, none⟩ = some (.bool false) ∧ (w.alloc o).cell? ⟨2, 37, none⟩ = some (.int .i64 0) ∧ (w.alloc o).cell? ⟨2, 38, none⟩ = some (.int .i64 0) ∧ (w.alloc o).cell? ⟨2, 39, none⟩ = some (.int .i64 2) := by
 exact ⟨h.nodeUp 36 (by omega) o, h.nodeUp 37 (by omega) o, h.nodeUp 38 (by omega) o, h.nodeUp 39 (by omega) o⟩
set_option maxHeartbeats 1000000 in
theorem opc1 (v : Int) (s : ByteArray) (w : World) (hT : Tab w) : Calls Tryz.prog 121 #[.agg #[.int .i64 1, .int .i64 v, .string s]] w fun e w' => e = .returned (.int .i64 (arity ⟨1, v, s⟩)) ∧ Below w.heap.size w w' := by
 obtain ⟨c0, c1, c2, c3⟩ := hT.up1 (.cells #[.int .i64 1, .int .i64 v, .string s] 91)
 clear hT
 go_enter Tryz.func121, Tryz.ntmps121
 go_wp2_with fail
 go_ret
 exact ⟨ret_int (by simp [arity]), (Below.refl _ _).alloc (Nat.le_refl _) _⟩
set_option maxHeartbeats 1000000 in
theorem opc2 (v : Int) (s : ByteArray) (w : World) (hT : Tab w) : Calls Tryz.prog 121 #[.agg #[.int .i64 2, .int .i64 v, .string s]] w fun e w' => e = .returned (.int .i64 (arity ⟨2, v, s⟩)) ∧ Below w.heap.size w w' := by
 obtain ⟨c0, c1, c2, c3⟩ := hT.up2 (.cells #[.int .i64 2, .int .i64 v, .string s] 91)
 clear hT
 go_enter Tryz.func121, Tryz.ntmps121
 go_wp2_with fail
 go_ret
 exact ⟨ret_int (by simp [arity]), (Below.refl _ _).alloc (Nat.le_refl _) _⟩
set_option maxHeartbeats 1000000 in
theorem opc3 (v : Int) (s : ByteArray) (w : World) (hT : Tab w) : Calls Tryz.prog 121 #[.agg #[.int .i64 3, .int .i64 v, .string s]] w fun e w' => e = .returned (.int .i64 (arity ⟨3, v, s⟩)) ∧ Below w.heap.size w w' := by
 obtain ⟨c0, c1, c2, c3⟩ := hT.up3 (.cells #[.int .i64 3, .int .i64 v, .string s] 91)
 clear hT
 go_enter Tryz.func121, Tryz.ntmps121
 go_wp2_with fail
 go_ret
 exact ⟨ret_int (by simp [arity]), (Below.refl _ _).alloc (Nat.le_refl _) _⟩
set_option maxHeartbeats 1000000 in
theorem opc4 (v : Int) (s : ByteArray) (w : World) (hT : Tab w) : Calls Tryz.prog 121 #[.agg #[.int .i64 4, .int .i64 v, .string s]] w fun e w' => e = .returned (.int .i64 (arity ⟨4, v, s⟩)) ∧ Below w.heap.size w w' := by
 obtain ⟨c0, c1, c2, c3⟩ := hT.up4 (.cells #[.int .i64 4, .int .i64 v, .string s] 91)
 clear hT
 go_enter Tryz.func121, Tryz.ntmps121
 go_wp2_with fail
 go_ret
 exact ⟨ret_int (by simp [arity]), (Below.refl _ _).alloc (Nat.le_refl _) _⟩
set_option maxHeartbeats 1000000 in
theorem opc5 (v : Int) (s : ByteArray) (w : World) (hT : Tab w) : Calls Tryz.prog 121 #[.agg #[.int .i64 5, .int .i64 v, .string s]] w fun e w' => e = .returned (.int .i64 (arity ⟨5, v, s⟩)) ∧ Below w.heap.size w w' := by
 obtain ⟨c0, c1, c2, c3⟩ := hT.up5 (.cells #[.int .i64 5, .int .i64 v, .string s] 91)
 clear hT
 go_enter Tryz.func121, Tryz.ntmps121
 go_wp2_with fail
 go_ret
 exact ⟨ret_int (by simp [arity]), (Below.refl _ _).alloc (Nat.le_refl _) _⟩
set_option maxHeartbeats 1000000 in
theorem opc6 (v : Int) (s : ByteArray) (w : World) (hT : Tab w) : Calls Tryz.prog 121 #[.agg #[.int .i64 6, .int .i64 v, .string s]] w fun e w' => e = .returned (.int .i64 (arity ⟨6, v, s⟩)) ∧ Below w.heap.size w w' := by
 obtain ⟨c0, c1, c2, c3⟩ := hT.up6 (.cells #[.int .i64 6, .int .i64 v, .string s] 91)
 clear hT
 go_enter Tryz.func121, Tryz.ntmps121
 go_wp2_with fail
 go_ret
 exact ⟨ret_int (by simp [arity]), (Below.refl _ _).alloc (Nat.le_refl _) _⟩
set_option maxHeartbeats 1000000 in
theorem opc7 (v : Int) (s : ByteArray) (w : World) (hT : Tab w) : Calls Tryz.prog 121 #[.agg #[.int .i64 7, .int .i64 v, .string s]] w fun e w' => e = .returned (.int .i64 (arity ⟨7, v, s⟩)) ∧ Below w.heap.size w w' := by
 obtain ⟨c0, c1, c2, c3⟩ := hT.up7 (.cells #[.int .i64 7, .int .i64 v, .string s] 91)
 clear hT
 go_enter Tryz.func121, Tryz.ntmps121
 go_wp2_with fail
 go_ret
 exact ⟨ret_int (by simp [arity]), (Below.refl _ _).alloc (Nat.le_refl _) _⟩
set_option maxHeartbeats 1000000 in
theorem opc8 (v : Int) (s : ByteArray) (w : World) (hT : Tab w) : Calls Tryz.prog 121 #[.agg #[.int .i64 8, .int .i64 v, .string s]] w fun e w' => e = .returned (.int .i64 (arity ⟨8, v, s⟩)) ∧ Below w.heap.size w w' := by
 obtain ⟨c0, c1, c2, c3⟩ := hT.up8 (.cells #[.int .i64 8, .int .i64 v, .string s] 91)
 clear hT
 go_enter Tryz.func121, Tryz.ntmps121
 go_wp2_with fail
 go_ret
 exact ⟨ret_int (by simp [arity]), (Below.refl _ _).alloc (Nat.le_refl _) _⟩
set_option maxHeartbeats 1000000 in
theorem opc9 (v : Int) (s : ByteArray) (w : World) (hT : Tab w) : Calls Tryz.prog 121 #[.agg #[.int .i64 9, .int .i64 v, .string s]] w fun e w' => e = .returned (.int .i64 (arity ⟨9, v, s⟩)) ∧ Below w.heap.size w w' := by
 obtain ⟨c0, c1, c2, c3⟩ := hT.up9 (.cells #[.int .i64 9, .int .i64 v, .string s] 91)
 clear hT
 go_enter Tryz.func121, Tryz.ntmps121
 go_wp2_with fail
 go_ret
 exact ⟨ret_int (by simp [arity]), (Below.refl _ _).alloc (Nat.le_refl _) _⟩
theorem opc_any (n : Nd) (w : World) (hT : Tab w) (hk : 1 ≤ n.kind ∧ n.kind ≤ 9) : Calls Tryz.prog 121 #[.agg #[.int .i64 n.kind, .int .i64 n.val, .string n.name]] w fun e w' => e = .returned (.int .i64 (arity n)) ∧ Below w.heap.size w w' := by
 obtain ⟨k, v, s⟩ := n
 have h9 : k = 1 ∨ k = 2 ∨ k = 3 ∨ k = 4 ∨ k = 5 ∨ k = 6 ∨ k = 7 ∨ k = 8 ∨ k = 9 := by simp only at hk; omega
 rcases h9 with rfl | rfl | rfl | rfl | rfl | rfl | rfl | rfl | rfl
 ·exact opc1 v s w hT
 ·exact opc2 v s w hT
 ·exact opc3 v s w hT
 ·exact opc4 v s w hT
 ·exact opc5 v s w hT
 ·exact opc6 v s w hT
 ·exact opc7 v s w hT
 ·exact opc8 v s w hT
 ·exact opc9 v s w hT
set_option maxHeartbeats 1000000 in
theorem vnode1 (v : Int) (s : ByteArray) (w : World) (hT : Tab w) : Calls Tryz.prog 131 #[.agg #[.int .i64 1, .int .i64 v, .string s]] w fun e w' => e = .returned (.bool (nodeB ⟨1, v, s⟩)) ∧ Below w.heap.size w w' := by
 obtain ⟨c0, c1, c2, c3⟩ := hT.up1 (.cells #[.int .i64 1, .int .i64 v, .string s] 91)
 clear hT
 by_cases h1 : v < (-2147483648)
 ·go_enter Tryz.func131, Tryz.ntmps131
  go_wp2_with fail
  go_ret
  exact ⟨ret_bool (by simp [nodeB]; omega), ((Below.refl _ _).alloc (Nat.le_refl _) _).alloc (by simp) _⟩
 ·by_cases h2 : 2147483647 < v
  ·go_enter Tryz.func131, Tryz.ntmps131
   go_wp2_with fail
   go_ret
   exact ⟨ret_bool (by simp [nodeB]; omega), ((Below.refl _ _).alloc (Nat.le_refl _) _).alloc (by simp) _⟩
  ·go_enter Tryz.func131, Tryz.ntmps131
   go_wp2_with fail
   refine (asked_no _ _).mono ?_
   rintro e w' ⟨rfl, hb⟩
   go_wp2_with fail
   go_ret
   refine ⟨ret_bool ?_, (((Below.refl _ _).alloc (Nat.le_refl _) _).alloc (by simp) _).trans (hb.mono (by simp; omega))⟩
   simp [nodeB]; omega
set_option maxHeartbeats 1000000 in
theorem vnode2 (v : Int) (s : ByteArray) (w : World) (hT : Tab w) : Calls Tryz.prog 131 #[.agg #[.int .i64 2, .int .i64 v, .string s]] w fun e w' => e = .returned (.bool (nodeB ⟨2, v, s⟩)) ∧ Below w.heap.size w w' := by
 obtain ⟨c0, c1, c2, c3⟩ := hT.up2 (.cells #[.int .i64 2, .int .i64 v, .string s] 91)
 clear hT
 by_cases h1 : v < 0
 ·go_enter Tryz.func131, Tryz.ntmps131
  go_wp2_with fail
  go_ret
  exact ⟨ret_bool (by simp [nodeB]; omega), ((Below.refl _ _).alloc (Nat.le_refl _) _).alloc (by simp) _⟩
 ·by_cases h2 : 0 < v
  ·go_enter Tryz.func131, Tryz.ntmps131
   go_wp2_with fail
   go_ret
   exact ⟨ret_bool (by simp [nodeB]; omega), ((Below.refl _ _).alloc (Nat.le_refl _) _).alloc (by simp) _⟩
  ·go_enter Tryz.func131, Tryz.ntmps131
   go_wp2_with fail
   refine (asked_yes _ _).mono ?_
   rintro e w' ⟨rfl, hb⟩
   go_wp2_with fail
   go_ret
   refine ⟨ret_bool ?_, (((Below.refl _ _).alloc (Nat.le_refl _) _).alloc (by simp) _).trans (hb.mono (by simp; omega))⟩
   simp [nodeB]; omega
set_option maxHeartbeats 1000000 in
theorem vnode3 (v : Int) (s : ByteArray) (w : World) (hT : Tab w) : Calls Tryz.prog 131 #[.agg #[.int .i64 3, .int .i64 v, .string s]] w fun e w' => e = .returned (.bool (nodeB ⟨3, v, s⟩)) ∧ Below w.heap.size w w' := by
 obtain ⟨c0, c1, c2, c3⟩ := hT.up3 (.cells #[.int .i64 3, .int .i64 v, .string s] 91)
 clear hT
 by_cases h1 : v < 0
 ·go_enter Tryz.func131, Tryz.ntmps131
  go_wp2_with fail
  go_ret
  exact ⟨ret_bool (by simp [nodeB]; omega), ((Below.refl _ _).alloc (Nat.le_refl _) _).alloc (by simp) _⟩
 ·by_cases h2 : 0 < v
  ·go_enter Tryz.func131, Tryz.ntmps131
   go_wp2_with fail
   go_ret
   exact ⟨ret_bool (by simp [nodeB]; omega), ((Below.refl _ _).alloc (Nat.le_refl _) _).alloc (by simp) _⟩
  ·go_enter Tryz.func131, Tryz.ntmps131
   go_wp2_with fail
   refine (asked_yes _ _).mono ?_
   rintro e w' ⟨rfl, hb⟩
   go_wp2_with fail
   go_ret
   refine ⟨ret_bool ?_, (((Below.refl _ _).alloc (Nat.le_refl _) _).alloc (by simp) _).trans (hb.mono (by simp; omega))⟩
   simp [nodeB]; omega
set_option maxHeartbeats 1000000 in
theorem vnode4 (v : Int) (s : ByteArray) (w : World) (hT : Tab w) : Calls Tryz.prog 131 #[.agg #[.int .i64 4, .int .i64 v, .string s]] w fun e w' => e = .returned (.bool (nodeB ⟨4, v, s⟩)) ∧ Below w.heap.size w w' := by
 obtain ⟨c0, c1, c2, c3⟩ := hT.up4 (.cells #[.int .i64 4, .int .i64 v, .string s] 91)
 clear hT
 by_cases h1 : v < 0
 ·go_enter Tryz.func131, Tryz.ntmps131
  go_wp2_with fail
  go_ret
  exact ⟨ret_bool (by simp [nodeB]; omega), ((Below.refl _ _).alloc (Nat.le_refl _) _).alloc (by simp) _⟩
 ·by_cases h2 : 6 < v
  ·go_enter Tryz.func131, Tryz.ntmps131
   go_wp2_with fail
   go_ret
   exact ⟨ret_bool (by simp [nodeB]; omega), ((Below.refl _ _).alloc (Nat.le_refl _) _).alloc (by simp) _⟩
  ·go_enter Tryz.func131, Tryz.ntmps131
   go_wp2_with fail
   refine (asked_yes _ _).mono ?_
   rintro e w' ⟨rfl, hb⟩
   go_wp2_with fail
   go_ret
   refine ⟨ret_bool ?_, (((Below.refl _ _).alloc (Nat.le_refl _) _).alloc (by simp) _).trans (hb.mono (by simp; omega))⟩
   simp [nodeB]; omega
set_option maxHeartbeats 1000000 in
theorem vnode5 (v : Int) (s : ByteArray) (w : World) (hT : Tab w) : Calls Tryz.prog 131 #[.agg #[.int .i64 5, .int .i64 v, .string s]] w fun e w' => e = .returned (.bool (nodeB ⟨5, v, s⟩)) ∧ Below w.heap.size w w' := by
 obtain ⟨c0, c1, c2, c3⟩ := hT.up5 (.cells #[.int .i64 5, .int .i64 v, .string s] 91)
 clear hT
 by_cases h1 : v < 0
 ·go_enter Tryz.func131, Tryz.ntmps131
  go_wp2_with fail
  go_ret
  exact ⟨ret_bool (by simp [nodeB]; omega), ((Below.refl _ _).alloc (Nat.le_refl _) _).alloc (by simp) _⟩
 ·by_cases h2 : 0 < v
  ·go_enter Tryz.func131, Tryz.ntmps131
   go_wp2_with fail
   go_ret
   exact ⟨ret_bool (by simp [nodeB]; omega), ((Below.refl _ _).alloc (Nat.le_refl _) _).alloc (by simp) _⟩
  ·go_enter Tryz.func131, Tryz.ntmps131
   go_wp2_with fail
   refine (asked_no _ _).mono ?_
   rintro e w' ⟨rfl, hb⟩
   go_wp2_with fail
   go_ret
   refine ⟨ret_bool ?_, (((Below.refl _ _).alloc (Nat.le_refl _) _).alloc (by simp) _).trans (hb.mono (by simp; omega))⟩
   simp [nodeB]; omega
set_option maxHeartbeats 1000000 in
theorem vnode6 (v : Int) (s : ByteArray) (w : World) (hT : Tab w) : Calls Tryz.prog 131 #[.agg #[.int .i64 6, .int .i64 v, .string s]] w fun e w' => e = .returned (.bool (nodeB ⟨6, v, s⟩)) ∧ Below w.heap.size w w' := by
 obtain ⟨c0, c1, c2, c3⟩ := hT.up6 (.cells #[.int .i64 6, .int .i64 v, .string s] 91)
 clear hT
 by_cases h1 : v < 0
 ·go_enter Tryz.func131, Tryz.ntmps131
  go_wp2_with fail
  go_ret
  exact ⟨ret_bool (by simp [nodeB]; omega), ((Below.refl _ _).alloc (Nat.le_refl _) _).alloc (by simp) _⟩
 ·by_cases h2 : 2 < v
  ·go_enter Tryz.func131, Tryz.ntmps131
   go_wp2_with fail
   go_ret
   exact ⟨ret_bool (by simp [nodeB]; omega), ((Below.refl _ _).alloc (Nat.le_refl _) _).alloc (by simp) _⟩
  ·go_enter Tryz.func131, Tryz.ntmps131
   go_wp2_with fail
   refine (asked_no _ _).mono ?_
   rintro e w' ⟨rfl, hb⟩
   go_wp2_with fail
   go_ret
   refine ⟨ret_bool ?_, (((Below.refl _ _).alloc (Nat.le_refl _) _).alloc (by simp) _).trans (hb.mono (by simp; omega))⟩
   simp [nodeB]; omega
set_option maxHeartbeats 1000000 in
theorem vnode7 (v : Int) (s : ByteArray) (w : World) (hT : Tab w) : Calls Tryz.prog 131 #[.agg #[.int .i64 7, .int .i64 v, .string s]] w fun e w' => e = .returned (.bool (nodeB ⟨7, v, s⟩)) ∧ Below w.heap.size w w' := by
 obtain ⟨c0, c1, c2, c3⟩ := hT.up7 (.cells #[.int .i64 7, .int .i64 v, .string s] 91)
 clear hT
 by_cases h1 : v < 0
 ·go_enter Tryz.func131, Tryz.ntmps131
  go_wp2_with fail
  go_ret
  exact ⟨ret_bool (by simp [nodeB]; omega), ((Below.refl _ _).alloc (Nat.le_refl _) _).alloc (by simp) _⟩
 ·by_cases h2 : 15 < v
  ·go_enter Tryz.func131, Tryz.ntmps131
   go_wp2_with fail
   go_ret
   exact ⟨ret_bool (by simp [nodeB]; omega), ((Below.refl _ _).alloc (Nat.le_refl _) _).alloc (by simp) _⟩
  ·go_enter Tryz.func131, Tryz.ntmps131
   go_wp2_with fail
   refine (asked_no _ _).mono ?_
   rintro e w' ⟨rfl, hb⟩
   go_wp2_with fail
   go_ret
   refine ⟨ret_bool ?_, (((Below.refl _ _).alloc (Nat.le_refl _) _).alloc (by simp) _).trans (hb.mono (by simp; omega))⟩
   simp [nodeB]; omega
set_option maxHeartbeats 1000000 in
theorem vnode8 (v : Int) (s : ByteArray) (w : World) (hT : Tab w) : Calls Tryz.prog 131 #[.agg #[.int .i64 8, .int .i64 v, .string s]] w fun e w' => e = .returned (.bool (nodeB ⟨8, v, s⟩)) ∧ Below w.heap.size w w' := by
 obtain ⟨c0, c1, c2, c3⟩ := hT.up8 (.cells #[.int .i64 8, .int .i64 v, .string s] 91)
 clear hT
 by_cases h1 : v < 0
 ·go_enter Tryz.func131, Tryz.ntmps131
  go_wp2_with fail
  go_ret
  exact ⟨ret_bool (by simp [nodeB]; omega), ((Below.refl _ _).alloc (Nat.le_refl _) _).alloc (by simp) _⟩
 ·by_cases h2 : 0 < v
  ·go_enter Tryz.func131, Tryz.ntmps131
   go_wp2_with fail
   go_ret
   exact ⟨ret_bool (by simp [nodeB]; omega), ((Below.refl _ _).alloc (Nat.le_refl _) _).alloc (by simp) _⟩
  ·go_enter Tryz.func131, Tryz.ntmps131
   go_wp2_with fail
   refine (asked_no _ _).mono ?_
   rintro e w' ⟨rfl, hb⟩
   go_wp2_with fail
   go_ret
   refine ⟨ret_bool ?_, (((Below.refl _ _).alloc (Nat.le_refl _) _).alloc (by simp) _).trans (hb.mono (by simp; omega))⟩
   simp [nodeB]; omega
set_option maxHeartbeats 1000000 in
theorem vnode9 (v : Int) (s : ByteArray) (w : World) (hT : Tab w) : Calls Tryz.prog 131 #[.agg #[.int .i64 9, .int .i64 v, .string s]] w fun e w' => e = .returned (.bool (nodeB ⟨9, v, s⟩)) ∧ Below w.heap.size w w' := by
 obtain ⟨c0, c1, c2, c3⟩ := hT.up9 (.cells #[.int .i64 9, .int .i64 v, .string s] 91)
 clear hT
 by_cases h1 : v < 0
 ·go_enter Tryz.func131, Tryz.ntmps131
  go_wp2_with fail
  go_ret
  exact ⟨ret_bool (by simp [nodeB]; omega), ((Below.refl _ _).alloc (Nat.le_refl _) _).alloc (by simp) _⟩
 ·by_cases h2 : 0 < v
  ·go_enter Tryz.func131, Tryz.ntmps131
   go_wp2_with fail
   go_ret
   exact ⟨ret_bool (by simp [nodeB]; omega), ((Below.refl _ _).alloc (Nat.le_refl _) _).alloc (by simp) _⟩
  ·go_enter Tryz.func131, Tryz.ntmps131
   go_wp2_with fail
   refine (asked_no _ _).mono ?_
   rintro e w' ⟨rfl, hb⟩
   go_wp2_with fail
   go_ret
   refine ⟨ret_bool ?_, (((Below.refl _ _).alloc (Nat.le_refl _) _).alloc (by simp) _).trans (hb.mono (by simp; omega))⟩
   simp [nodeB]; omega
set_option maxHeartbeats 1000000 in
theorem vnodeX (k v : Int) (s : ByteArray) (w : World) (hk : k < 1 ∨ 9 < k) : Calls Tryz.prog 131 #[.agg #[.int .i64 k, .int .i64 v, .string s]] w fun e w' => e = .returned (.bool (nodeB ⟨k, v, s⟩)) ∧ Below w.heap.size w w' := by
 have hn : nodeB ⟨k, v, s⟩ = false := by
  simp only [nodeB]
  rw [if_neg (by omega), if_neg (by omega), if_neg (by omega), if_neg (by omega), if_neg (by omega), if_neg (by omega)]
 rw [hn]
 clear hn
 rcases hk with hk | hk
 ·go_enter Tryz.func131, Tryz.ntmps131
  go_wp2_with fail
  go_ret
  exact ⟨rfl, (Below.refl _ _).alloc (Nat.le_refl _) _⟩
 ·have h' : 1 ≤ k := by omega
  go_enter Tryz.func131, Tryz.ntmps131
  go_wp2_with fail
  go_ret
  exact ⟨rfl, (Below.refl _ _).alloc (Nat.le_refl _) _⟩
theorem vnode_any (n : Nd) (w : World) (hT : Tab w) : Calls Tryz.prog 131 #[.agg #[.int .i64 n.kind, .int .i64 n.val, .string n.name]] w fun e w' => e = .returned (.bool (nodeB n)) ∧ Below w.heap.size w w' := by
 obtain ⟨k, v, s⟩ := n
 by_cases hk : k < 1 ∨ 9 < k
 ·exact vnodeX k v s w hk
 have h9 : k = 1 ∨ k = 2 ∨ k = 3 ∨ k = 4 ∨ k = 5 ∨ k = 6 ∨ k = 7 ∨ k = 8 ∨ k = 9 := by omega
 rcases h9 with rfl | rfl | rfl | rfl | rfl | rfl | rfl | rfl | rfl
 ·exact vnode1 v s w hT
 ·exact vnode2 v s w hT
 ·exact vnode3 v s w hT
 ·exact vnode4 v s w hT
 ·exact vnode5 v s w hT
 ·exact vnode6 v s w hT
 ·exact vnode7 v s w hT
 ·exact vnode8 v s w hT
 ·exact vnode9 v s w hT
end
section
open Go.RowKit
def NodesC (w : World) (b off : Nat) (ns : List Nd) : Prop := ∀ j (h : j < ns.length),
 w.cell? ⟨b, off + j * 3, none⟩ = some (.int .i64 ns[j].kind) ∧ w.cell? ⟨b, off + j * 3 + 1, none⟩ = some (.int .i64 ns[j].val) ∧ w.cell? ⟨b, off + j * 3 + 2, none⟩ = some (.string ns[j].name)
theorem NodesC.below {w w' : World} {b off : Nat} {ns : List Nd} (h : NodesC w b off ns) (hb : Below w.heap.size w w') : NodesC w' b off ns := by
 intro j hj
 obtain ⟨c0, c1, c2⟩ := h j hj
 have hlt := World.block_lt_of_cell? _ _ c0
 exact ⟨(hb.cell hlt).trans c0, (hb.cell (p := ⟨b, off + j * 3 + 1, none⟩) hlt).trans c1, (hb.cell (p := ⟨b, off + j * 3 + 2, none⟩) hlt).trans c2⟩
def Nodes (w : World) (v : Value) (ns : List Nd) : Prop := ∃ a cap, v = .slice a ns.length cap ∧ ns.length ≤ cap ∧ cap ≤ 9223372036854775807 ∧ (0 < ns.length → ∃ b off, a = some ⟨b, off, none⟩ ∧ NodesC w b off ns)
theorem Nodes.below {w w' : World} {v : Value} {ns : List Nd} (h : Nodes w v ns) (hb : Below w.heap.size w w') : Nodes w' v ns := by
 obtain ⟨a, cap, rfl, hl, hm, h⟩ := h
 refine ⟨a, cap, rfl, hl, hm, fun h0 => ?_⟩
 obtain ⟨b, off, rfl, hc⟩ := h h0
 exact ⟨b, off, rfl, hc.below hb⟩
theorem box3 {w w' : World} {t : TypeId} {x y z : Value} (h : Below (w.heap.size + 1) (w.alloc (.cells #[x, y, z] t)) w') :
  w'.cell? ⟨w.heap.size, 0, none⟩ = some x ∧ w'.cell? ⟨w.heap.size, 1, none⟩ = some y ∧ w'.cell? ⟨w.heap.size, 2, none⟩ = some z := by
 refine ⟨?_, ?_, ?_⟩ <;> (rw [h.cell (by simp)]; simp)
set_option maxHeartbeats 1000000 in
theorem one_any (v : Value) (ns : List Nd) (w : World) (hT : Tab w) (hl : ns.length ≤ 1048576) (hc : Nodes w v ns) :
  Calls Tryz.prog 117 #[v] w fun e w' => e = .returned (.bool (oneB ns)) ∧ Below w.heap.size w w' := by
 obtain ⟨a, cap, rfl, hcl, hcm, hc⟩ := hc
 have HC : Hid (0 < ns.length → ∃ b off, a = some ⟨b, off, none⟩ ∧ NodesC w b off ns) := hc
 clear hc
 go_enter Tryz.func117, Tryz.ntmps117
 go_wp2_with fail
 go_loopw [3, 8] (fun r i wr => ∃ (k : Nat) (q : Int), k ≤ ns.length ∧ i = .int .i64 k ∧ r = .int .i64 q ∧ wholeTo (ns.take k) 0 = some q ∧ Below w.heap.size w wr) (fun _ i _ => ns.length - (RowKit.intOf i).toNat)
 case atStart => exact ⟨0, 0, Nat.zero_le _, rfl, rfl, rfl, Below.refl _ _⟩
 case round =>
  obtain ⟨k, q, hk, rfl, rfl, hq, hB⟩ := hrel
  have HQ : Hid (wholeTo (ns.take k) 0 = some q) := hq
  have hqb := wholeTo_bd _ _ _ hq (Int.le_refl 0)
  have hql : q ≤ 1048576 := by have := hqb.2; simp at this; omega
  have hq0 := hqb.1
  clear hq hqb
  by_cases hlt : k < ns.length
  ·obtain ⟨b, off, rfl, hc⟩ := HC.out (by omega)
   obtain ⟨d0, d1, d2⟩ := (hc.below hB) k hlt
   have HT : Hid (Tab wr) := hT.below hT.size hB
   have hsz := hT.size
   have HS : Hid _ := wholeTo_step ns k q hlt HQ.out
   clear hc hT HC
   generalize hn : ns[k] = n at d0 d1 d2 HS
   clear hn
   go_wp2_with fail
   refine (vnode_any n _ (HT.out.below HT.out.size ((Below.refl _ _).alloc (Nat.le_refl _) _))).mono ?_
   rintro e w1 ⟨rfl, hb1⟩
   simp only [World.size_alloc] at hb1
   have hB1 := hB.trans ((((Below.refl _ _).alloc (Nat.le_refl _) _).trans (hb1.mono (by omega))).mono hB.size)
   cases hv : nodeB n
   ·go_wp2_with fail
    go_ret
    refine ⟨ret_bool (oneB_none ns (k + 1) ?_).symm, hB1⟩
    rw [HS.out, if_neg (by simp [hv])]
   ·obtain ⟨e0, e1, e2⟩ := box3 hb1
    have hT1 : Hid (Tab w1) := HT.out.below HT.out.size (((Below.refl _ _).alloc (Nat.le_refl _) _).trans (hb1.mono (by omega)))
    have hkb := kind_good hv
    have hab := arity_good hv
    go_wp2_with fail
    refine (opc_any n _ hT1.out hkb).mono ?_
    rintro e w2 ⟨rfl, hb2⟩
    have hb2' := hb1.trans (hb2.mono (by have := hb1.size; simp at this; omega))
    have hB2 := hB.trans ((((Below.refl _ _).alloc (Nat.le_refl _) _).trans (hb2'.mono (by omega))).mono hB.size)
    obtain ⟨f0, f1, f2⟩ := box3 hb2'
    have hT2 : Hid (Tab w2) := hT1.out.below hT1.out.size hb2
    clear e0 e1 e2 d0 d1 d2
    by_cases ha : q < arity n
    ·go_wp2_with fail
     go_ret
     refine ⟨ret_bool (oneB_none ns (k + 1) ?_).symm, hB2⟩
     rw [HS.out, if_neg (by omega)]
    ·go_wp2_with fail
     refine (opc_any n _ hT2.out hkb).mono ?_
     rintro e w3 ⟨rfl, hb3⟩
     have hB3 := hB2.trans (hb3.mono hB2.size)
     clear f0 f1 f2
     go_wp2_with fail
     go_roundw
     case rel => exact ⟨k + 1, q + 1 - arity n, by omega, by go_num, by rw [show q + (1 - arity n) = q + 1 - arity n by omega], by rw [HS.out, if_pos ⟨hv, by omega⟩], hB3⟩
     case measure => simp [RowKit.intOf]; omega
  ·go_wp2_with fail
   go_ret
   obtain rfl : k = ns.length := by omega
   exact ⟨ret_bool (oneB_some ns q HQ.out).symm, hB⟩
end
section
open Go.RowKit
theorem arity_nd (n : Nd) (w : World) : Calls Tryz.prog 143 #[.agg #[.int .i64 n.kind, .int .i64 n.val, .string n.name]] w fun e w' => e = .returned (.int .i64 (arity n)) ∧ Below w.heap.size w w' := arity_any n.kind n.val n.name w
set_option maxHeartbeats 1000000 in
theorem from_any (v : Value) (ns : List Nd) (w : World) (hl : ns.length ≤ 1048576) (hg : goodAll ns) (hc : Nodes w v ns) :
  Calls Tryz.prog 125 #[v] w fun e w' => ∃ r, fromP ns r ∧ -1 ≤ r ∧ r ≤ 1048576 ∧ e = .returned (.int .i64 r) ∧ Below w.heap.size w w' := by
 obtain ⟨a, cap, rfl, hcl, hcm, hc⟩ := hc
 have HC : Hid (0 < ns.length → ∃ b off, a = some ⟨b, off, none⟩ ∧ NodesC w b off ns) := hc
 have HG : Hid (goodAll ns) := hg
 clear hc hg
 go_enter Tryz.func125, Tryz.ntmps125
 go_wp2_with fail
 go_loopw [3, 4] (fun r i wr => ∃ (k : Nat) (q : Int), k ≤ ns.length ∧ i = .int .i64 k ∧ r = .int .i64 q ∧ q = defc (ns.drop k) ∧ 0 ≤ q ∧ (∀ j, k < j → j ≤ ns.length → 1 ≤ defc (ns.drop j)) ∧ Below w.heap.size w wr) (fun _ i _ => (RowKit.intOf i).toNat)
 case atStart => exact ⟨ns.length, 1, Nat.le_refl _, rfl, rfl, by simp [defc], by omega, fun j h1 h2 => absurd h2 (by omega), Below.refl _ _⟩
 case round =>
  obtain ⟨k, q, hk, rfl, rfl, hq, hq0, hj, hB⟩ := hrel
  have hqb := defc_le _ (goodAll_drop HG.out k)
  have hq1 : q ≤ 6291457 := by rw [hq]; simp at hqb; omega
  have HQ : Hid (q = defc (ns.drop k)) := hq
  have HJ : Hid (∀ j, k < j → j ≤ ns.length → 1 ≤ defc (ns.drop j)) := hj
  clear hq hj hqb
  by_cases h0 : 0 < q
  ·by_cases hk0 : k = 0
   ·subst hk0
    go_wp2_with fail
    go_ret
    refine ⟨-1, .inr ⟨rfl, fun j hj => ?_⟩, by omega, by omega, rfl, hB⟩
    rcases Nat.eq_zero_or_pos j with rfl | hp
    ·rw [← HQ.out]; omega
    ·exact HJ.out j hp hj
   ·obtain ⟨m, rfl⟩ : ∃ m, k = m + 1 := ⟨k - 1, by omega⟩
    obtain ⟨b, off, rfl, hc⟩ := HC.out (by omega)
    obtain ⟨d0, d1, d2⟩ := (hc.below hB) m (by omega)
    have hab := arity_good (HG.out ns[m] (List.getElem_mem _))
    have HD : Hid _ := defc_drop ns m (by omega)
    clear hc HC
    generalize hn : ns[m] = n at d0 d1 d2 HD hab
    clear hn
    have e1 : ((m + 1 : Nat) : Int) - 1 = (m : Int) := by omega
    go_wp2_with fail
    refine (arity_nd n _).mono ?_
    rintro e w1 ⟨rfl, hb1⟩
    have hB1 := hB.trans (hb1.mono hB.size)
    clear d0 d1 d2
    go_wp2_with fail
    go_roundw
    case rel =>
     refine ⟨m, q - 1 + arity n, by omega, by go_num, rfl, ?_, by omega, fun j h1 h2 => ?_, hB1⟩
     ·rw [HD.out, ← HQ.out]; omega
     ·by_cases e : j = m + 1
      ·subst e; rw [← HQ.out]; omega
      ·exact HJ.out j (by omega) h2
    case measure => simp [RowKit.intOf]
  ·go_wp2_with fail
   go_ret
   refine ⟨k, .inl ⟨k, rfl, ?_, ?_, HJ.out⟩, by omega, by omega, rfl, hB⟩
   ·rcases Nat.lt_or_ge k ns.length with h | h
    ·exact h
    ·exfalso
     have := HQ.out
     rw [List.drop_of_length_le h, defc] at this
     omega
   ·rw [← HQ.out]; omega
theorem oneB_bad {l : List Nd} {k : Nat} (hk : k < l.length) (h : nodeB l[k] = false) : oneB l = false := by
 cases e : oneB l
 ·rfl
 ·have := ((oneB_iff l).1 e).1 _ (List.getElem_mem hk)
  rw [h] at this; cases this
set_option maxHeartbeats 1000000 in
theorem gexpr_any (v : Value) (ns : List Nd) (w : World) (hl : ns.length ≤ 1048576) (hc : Nodes w v ns) :
  Calls Tryz.prog 109 #[v] w fun e w' => e = .returned (.bool (decide (ns.length ≤ 2000) && oneB ns)) ∧ Below w.heap.size w w' := by
 have HN : Hid (Nodes w v ns) := hc
 obtain ⟨a, cap, rfl, hcl, hcm, hc⟩ := hc
 have HC : Hid (0 < ns.length → ∃ b off, a = some ⟨b, off, none⟩ ∧ NodesC w b off ns) := hc
 clear hc
 by_cases h2 : 2000 < ns.length
 ·have hd : (decide (ns.length ≤ 2000) && oneB ns) = false := by simp; omega
  rw [hd]
  clear hd
  go_enter Tryz.func109, Tryz.ntmps109
  go_wp2_with fail
  go_ret
  exact ⟨rfl, Below.refl _ _⟩
 ·have hd : (decide (ns.length ≤ 2000) && oneB ns) = oneB ns := by rw [decide_eq_true (by omega)]; rfl
  rw [hd]
  clear hd
  go_enter Tryz.func109, Tryz.ntmps109
  go_wp2_with fail
  go_loopw [3] (fun i wr => ∃ (k : Nat), k ≤ ns.length ∧ i = .int .i64 k ∧ (∀ n ∈ ns.take k, nodeB n = true) ∧ Below w.heap.size w wr) (fun i _ => ns.length - (RowKit.intOf i).toNat)
  case atStart => exact ⟨0, Nat.zero_le _, rfl, by simp, Below.refl _ _⟩
  case round =>
   obtain ⟨k, hk, rfl, hg, hB⟩ := hrel
   have HG : Hid (∀ n ∈ ns.take k, nodeB n = true) := hg
   clear hg
   by_cases hlt : k < ns.length
   ·obtain ⟨b, off, rfl, hc⟩ := HC.out (by omega)
    obtain ⟨d0, d1, d2⟩ := (hc.below hB) k hlt
    clear hc HC
    have HE : Hid (ns.take (k + 1) = ns.take k ++ [ns[k]]) := take_succ ns k hlt
    have HX : Hid (nodeB ns[k] = false → oneB ns = false) := oneB_bad hlt
    generalize hn : ns[k] = n at d0 d1 d2 HE HX
    clear hn
    go_wp2_with fail
    refine (gnode_any n _).mono ?_
    rintro e w1 ⟨rfl, hb1⟩
    have hB1 := hB.trans (hb1.mono hB.size)
    clear d0 d1 d2
    cases hv : nodeB n
    ·go_wp2_with fail
     go_ret
     exact ⟨ret_bool (HX.out hv).symm, hB1⟩
    ·go_wp2_with fail
     go_roundw
     case rel =>
      refine ⟨k + 1, by omega, by go_num, fun m hm => ?_, hB1⟩
      rw [HE.out] at hm
      rcases List.mem_append.1 hm with hm | hm
      ·exact HG.out m hm
      ·rw [List.mem_singleton.1 hm]; exact hv
     case measure => simp [RowKit.intOf]; omega
   ·have hk' : k = ns.length := by omega
    subst hk'
    have hgA : goodAll ns := by have := HG.out; rw [List.take_length] at this; exact this
    have HA : Hid (goodAll ns) := hgA
    clear hgA
    by_cases h0 : 0 < ns.length
    ·go_wp2_with fail
     refine (from_any _ ns _ hl HA.out (HN.out.below hB)).mono ?_
     rintro e w1 ⟨r, hr, hr1, hr2, rfl, hb1⟩
     have HR : Hid (fromP ns r) := hr
     clear hr
     go_wp2_with fail
     go_ret
     exact ⟨ret_bool (fromP_one HA.out HR.out), hB.trans (hb1.mono hB.size)⟩
    ·go_wp2_with fail
     go_ret
     refine ⟨ret_bool ?_, hB⟩
     have : ns = [] := List.eq_nil_of_length_eq_zero (by omega)
     subst this
     simp [oneB, wholeTo]
theorem NodesC.up {w : World} {b off : Nat} {ns : List Nd} (h : NodesC w b off ns) (j : Nat) (hj : j < ns.length) : (∀ o, (w.alloc o).cell? ⟨b, off + j * 3, none⟩ = some (.int .i64 ns[j].kind)) ∧ (∀ o, (w.alloc o).cell? ⟨b, off + j * 3 + 1, none⟩ = some (.int .i64 ns[j].val)) ∧ (∀ o, (w.alloc o).cell? ⟨b, off + j * 3 + 2, none⟩ = some (.string ns[j].name)) :=
 ⟨fun o => ((h.below ((Below.refl _ _).alloc (Nat.le_refl _) o)) j hj).1, fun o => ((h.below ((Below.refl _ _).alloc (Nat.le_refl _) o)) j hj).2.1, fun o => ((h.below ((Below.refl _ _).alloc (Nat.le_refl _) o)) j hj).2.2⟩
set_option maxHeartbeats 1000000 in
theorem root_any (v : Value) (ns : List Nd) (w : World) (hl : 0 < ns.length) (hm : ns.length ≤ 1048576) (hc : Nodes w v ns) :
  Calls Tryz.prog 110 #[v] w fun e w' => e = .returned (.agg #[.int .i64 (ns[ns.length - 1]'(by omega)).kind, .int .i64 (ns[ns.length - 1]'(by omega)).val, .string (ns[ns.length - 1]'(by omega)).name]) ∧ Below w.heap.size w w' := by
 obtain ⟨a, cap, rfl, hcl, hcm, hc⟩ := hc
 obtain ⟨b, off, rfl, hn⟩ := hc hl
 obtain ⟨d0, d1, d2⟩ := hn.up (ns.length - 1) (by omega)
 clear hc hn
 generalize hn : ns[ns.length - 1] = n at d0 d1 d2 ⊢
 clear hn
 obtain ⟨m, hm'⟩ : ∃ m, ns.length = m + 1 := ⟨ns.length - 1, by omega⟩
 rw [hm'] at d0 d1 d2 hl hm hcl ⊢
 have e1 : ((m + 1 : Nat) : Int) - 1 = (m : Int) := by omega
 have e2 : m + 1 - 1 = m := by omega
 rw [e2] at d0 d1 d2
 clear hm'
 go_enter Tryz.func110, Tryz.ntmps110
 go_wp2_with fail
 exact bodyPost_ret (v := .agg #[.int .i64 n.kind, .int .i64 n.val, .string n.name]) (by simp [results, Tryz.results110, go_sem]) rfl ⟨rfl, (Below.refl _ _).alloc (Nat.le_refl _) _⟩
end
section
open Go.RowKit
theorem Tv.bel {w w' : World} {S : Nat → Prop} {v : Value} {r : List Nd} (h : Tv w S v r) (hS : ∀ B, S B → B < w.heap.size) (hb : Below w.heap.size w w') : Tv w' S v r := h.keep (fun _ h => h) (fun B hB => hb.block B (hS B hB))
theorem size0 {s : ByteArray} (h : s.toList = []) : s = ⟨#[]⟩ := by
 have hl : ∀ (n : Nat) (i : Nat) (r : List UInt8), s.size - i = n → ByteArray.toList.loop s i r = [] → r = [] := by
  intro n
  induction n with
  | zero =>
   intro i r hi h
   rw [ByteArray.toList.loop, if_neg (by omega)] at h
   simpa using h
  | succ n ih =>
   intro i r hi h
   rw [ByteArray.toList.loop, if_pos (by omega)] at h
   have := ih (i + 1) _ (by omega) h
   simp at this
 have h0 : s.size = 0 := by
  rcases Nat.eq_zero_or_pos s.size with h0 | hp
  ·exact h0
  ·rw [ByteArray.toList, ByteArray.toList.loop, if_pos hp] at h
   have := hl _ _ _ rfl h
   simp at this
 apply ByteArray.ext
 exact Array.eq_empty_of_size_eq_zero h0
theorem node_rest {n : Nd} (h : nodeB n = true) : (n.kind = 1 ∨ n.kind = 5 ∨ n.kind = 6 ∨ n.kind = 7 ∨ n.kind = 8 ∨ n.kind = 9 → n.name = ⟨#[]⟩) ∧ (n.kind = 2 ∨ n.kind = 3 ∨ n.kind = 5 ∨ n.kind = 8 ∨ n.kind = 9 → n.val = 0) := by
 unfold nodeB at h
 refine ⟨fun hk => ?_, fun hk => ?_⟩
 ·apply size0
  rcases hk with hk | hk | hk | hk | hk | hk <;> (simp [hk] at h; exact h.2)
 ·rcases hk with hk | hk | hk | hk | hk <;> (simp [hk] at h; exact h.1)
def nodeV (n : Nd) (ar : Value) (vs : Nat → Value) : Value :=
 if n.kind = 1 then .iface 202 (.agg #[.int .i64 n.val])
 else if n.kind = 2 then .iface 204 (.agg #[.string n.name])
 else if n.kind = 3 then .iface 188 (.agg #[.string n.name, vs 0])
 else if n.kind = 4 then .iface 198 (.agg #[.string n.name, ar])
 else if n.kind = 6 then .iface 190 (.agg #[.int .i64 n.val, vs 0])
 else if n.kind = 7 then .iface 192 (.agg #[.int .i64 n.val, vs 0, vs 1])
 else if n.kind = 8 then .iface 194 (.agg #[vs 0, vs 1])
 else if n.kind = 9 then .iface 195 (.agg #[vs 0, vs 1])
 else .iface 206 (.agg #[])
set_option maxRecDepth 100000 in
set_option maxHeartbeats 4000000 in
theorem nodeOf_any (n : Nd) (hn : nodeB n = true) (A : Nat) (hA : arity n = A) (S : Nat → Prop) (ar : Value) (vs : Nat → Value) (w : World) (ha : Args w S ar A vs) (hI : ∀ i, i < A → ∃ t x, vs i = .iface t x) :
  Calls Tryz.prog 103 #[.agg #[.int .i64 n.kind, .int .i64 n.val, .string n.name], ar] w fun e w' => e = .returned (nodeV n ar vs) ∧ Below w.heap.size w w' := by
 have hkk := kind_good hn
 obtain ⟨nk, nv, nm⟩ := n
 obtain ⟨a, cap, rfl, hc1, hc2, hc⟩ := ha
 simp only at hkk ⊢
 have hk : nk = 1 ∨ nk = 2 ∨ nk = 3 ∨ nk = 4 ∨ nk = 5 ∨ nk = 6 ∨ nk = 7 ∨ nk = 8 ∨ nk = 9 := by omega
 have bx : ∀ o, Below w.heap.size w (w.alloc o) := fun o => (Below.refl _ _).alloc (Nat.le_refl _) o
 rcases hk with rfl | rfl | rfl | rfl | rfl | rfl | rfl | rfl | rfl
 ·go_enter Tryz.func103, Tryz.ntmps103
  go_wp2_with fail
  go_ret
  exact ⟨rfl, bx _⟩
 ·go_enter Tryz.func103, Tryz.ntmps103
  go_wp2_with fail
  go_ret
  exact ⟨rfl, bx _⟩
 ·have e1 : A = 1 := by simp [arity] at hA; omega
  subst e1
  obtain ⟨B, rfl, -, hcc⟩ := hc (by omega)
  have hlt := World.block_lt_of_cell? _ _ (hcc 0 (by omega))
  have q0 : ∀ o, (w.alloc o).cell? ⟨B, 0, none⟩ = some (vs 0) := fun o => ((bx o).cell (p := ⟨B, 0, none⟩) hlt).trans (hcc 0 (by omega))
  obtain ⟨t0, x0, h0⟩ := hI 0 (by omega)
  have HE : Hid (nodeV ⟨3, nv, nm⟩ (.slice (some ⟨B, 0, none⟩) 1 cap) vs = .iface 188 (.agg #[.string nm, vs 0])) := rfl
  rw [HE.out]
  rw [h0] at q0 ⊢
  clear hc hcc hI
  go_enter Tryz.func103, Tryz.ntmps103
  go_wp2_with fail
  go_quiet (fail)
  go_wp2_with fail
  go_ret
  exact ⟨rfl, below_drewN (bx _) _⟩
 ·have HE : Hid (nodeV ⟨4, nv, nm⟩ (.slice a A cap) vs = .iface 198 (.agg #[.string nm, .slice a A cap])) := rfl
  rw [HE.out]
  clear hc hI
  go_enter Tryz.func103, Tryz.ntmps103
  go_wp2_with fail
  go_ret
  exact ⟨rfl, bx _⟩
 ·go_enter Tryz.func103, Tryz.ntmps103
  go_wp2_with fail
  go_ret
  exact ⟨rfl, bx _⟩
 ·have e1 : A = 1 := by simp [arity] at hA; omega
  subst e1
  obtain ⟨B, rfl, -, hcc⟩ := hc (by omega)
  have hlt := World.block_lt_of_cell? _ _ (hcc 0 (by omega))
  have q0 : ∀ o, (w.alloc o).cell? ⟨B, 0, none⟩ = some (vs 0) := fun o => ((bx o).cell (p := ⟨B, 0, none⟩) hlt).trans (hcc 0 (by omega))
  obtain ⟨t0, x0, h0⟩ := hI 0 (by omega)
  have HE : Hid (nodeV ⟨6, nv, nm⟩ (.slice (some ⟨B, 0, none⟩) 1 cap) vs = .iface 190 (.agg #[.int .i64 nv, vs 0])) := rfl
  rw [HE.out]
  rw [h0] at q0 ⊢
  clear hc hcc hI
  go_enter Tryz.func103, Tryz.ntmps103
  go_wp2_with fail
  go_quiet (fail)
  go_wp2_with fail
  go_ret
  exact ⟨rfl, below_drewN (bx _) _⟩
 all_goals
  have e1 : A = 2 := by simp [arity] at hA; omega
  subst e1
  obtain ⟨B, rfl, -, hcc⟩ := hc (by omega)
  have hlt := World.block_lt_of_cell? _ _ (hcc 0 (by omega))
  have q0 : ∀ o, (w.alloc o).cell? ⟨B, 0, none⟩ = some (vs 0) := fun o => ((bx o).cell (p := ⟨B, 0, none⟩) hlt).trans (hcc 0 (by omega))
  have q1 : ∀ o, (w.alloc o).cell? ⟨B, 1, none⟩ = some (vs 1) := fun o => ((bx o).cell (p := ⟨B, 1, none⟩) hlt).trans (hcc 1 (by omega))
  obtain ⟨t0, x0, h0⟩ := hI 0 (by omega)
  obtain ⟨t1, x1, h1⟩ := hI 1 (by omega)
  clear hc hcc hI
 ·have HE : Hid (nodeV ⟨7, nv, nm⟩ (.slice (some ⟨B, 0, none⟩) 2 cap) vs = .iface 192 (.agg #[.int .i64 nv, vs 0, vs 1])) := rfl
  rw [HE.out]
  rw [h0] at q0
  rw [h1] at q1
  rw [h0, h1]
  go_enter Tryz.func103, Tryz.ntmps103
  go_wp2_with fail
  go_quiet (fail)
  go_wp2_with fail
  go_ret
  exact ⟨rfl, below_drewN (bx _) _⟩
 ·have HE : Hid (nodeV ⟨8, nv, nm⟩ (.slice (some ⟨B, 0, none⟩) 2 cap) vs = .iface 194 (.agg #[vs 0, vs 1])) := rfl
  rw [HE.out]
  rw [h0] at q0
  rw [h1] at q1
  rw [h0, h1]
  go_enter Tryz.func103, Tryz.ntmps103
  go_wp2_with fail
  go_quiet (fail)
  go_wp2_with fail
  go_ret
  exact ⟨rfl, below_drewN (bx _) _⟩
 ·have HE : Hid (nodeV ⟨9, nv, nm⟩ (.slice (some ⟨B, 0, none⟩) 2 cap) vs = .iface 195 (.agg #[vs 0, vs 1])) := rfl
  rw [HE.out]
  rw [h0] at q0
  rw [h1] at q1
  rw [h0, h1]
  go_enter Tryz.func103, Tryz.ntmps103
  go_wp2_with fail
  go_quiet (fail)
  go_wp2_with fail
  go_ret
  exact ⟨rfl, below_drewN (bx _) _⟩
theorem nodeT (n : Nd) (hn : nodeB n = true) (A : Nat) (hA : arity n = A) (w : World) (S : Nat → Prop) (ar : Value) (vs : Nat → Value) (F : Nat → List Nd) (ha : Args w S ar A vs) (hv : ∀ i, i < A → Tv w S (vs i) (F i)) : Tv w S (nodeV n ar vs) (joinF F A ++ [n]) := by
 have hkk := kind_good hn
 obtain ⟨hr1, hr2⟩ := node_rest hn
 obtain ⟨nk, nv, nm⟩ := n
 simp only at hkk hr1 hr2
 have hk : nk = 1 ∨ nk = 2 ∨ nk = 3 ∨ nk = 4 ∨ nk = 5 ∨ nk = 6 ∨ nk = 7 ∨ nk = 8 ∨ nk = 9 := by omega
 rcases hk with rfl | rfl | rfl | rfl | rfl | rfl | rfl | rfl | rfl
 ·obtain rfl := hr1 (by omega)
  have e1 : A = 0 := by simp [arity] at hA; omega
  subst e1
  exact .num nv
 ·obtain rfl := hr2 (by omega)
  have e1 : A = 0 := by simp [arity] at hA; omega
  subst e1
  exact .var nm
 ·obtain rfl := hr2 (by omega)
  have e1 : A = 1 := by simp [arity] at hA; omega
  subst e1
  exact .index nm _ _ (hv 0 (by omega))
 ·have e1 : nv = A := by simp [arity] at hA; omega
  subst e1
  exact .call nm ar A vs F ha hv
 ·obtain rfl := hr1 (by omega)
  obtain rfl := hr2 (by omega)
  have e1 : A = 0 := by simp [arity] at hA; omega
  subst e1
  exact .inn
 ·obtain rfl := hr1 (by omega)
  have e1 : A = 1 := by simp [arity] at hA; omega
  subst e1
  exact .un nv _ _ (hv 0 (by omega))
 ·obtain rfl := hr1 (by omega)
  have e1 : A = 2 := by simp [arity] at hA; omega
  subst e1
  exact .bin nv _ _ _ _ (hv 0 (by omega)) (hv 1 (by omega))
 ·obtain rfl := hr1 (by omega)
  obtain rfl := hr2 (by omega)
  have e1 : A = 2 := by simp [arity] at hA; omega
  subst e1
  exact .and _ _ _ _ (hv 0 (by omega)) (hv 1 (by omega))
 ·obtain rfl := hr1 (by omega)
  obtain rfl := hr2 (by omega)
  have e1 : A = 2 := by simp [arity] at hA; omega
  subst e1
  exact .or _ _ _ _ (hv 0 (by omega)) (hv 1 (by omega))
end
section
open Go.RowKit
theorem Nodes.cut {w : World} {a : Option Addr} {cap : Nat} {ns : List Nd} (h : Nodes w (.slice a ns.length cap) ns) (lo hi : Nat) (h1 : lo ≤ hi) (h2 : hi ≤ ns.length) :
  Nodes w (.slice (if cap = lo then a else a.map (·.add (lo * 3))) (hi - lo) (cap - lo)) ((ns.take hi).drop lo) := by
 obtain ⟨a', cap', he, hl, hm, h⟩ := h
 simp only [Value.slice.injEq, true_and] at he
 obtain ⟨rfl, rfl⟩ := he
 refine ⟨if cap = lo then a else a.map (·.add (lo * 3)), cap - lo, by simp [Nat.min_eq_left h2], by simp [Nat.min_eq_left h2]; omega, by omega, fun h0 => ?_⟩
 simp only [List.length_drop, List.length_take, Nat.min_eq_left h2] at h0
 obtain ⟨b, off, rfl, hc⟩ := h (by omega)
 refine ⟨b, off + lo * 3, ?_, fun j hj => ?_⟩
 ·rw [if_neg (by omega)]; simp [Addr.add]
 ·simp only [List.length_drop, List.length_take, Nat.min_eq_left h2] at hj
  have hcc := hc (lo + j) (by omega)
  have e : ((ns.take hi).drop lo)[j]'(by simp; omega) = ns[lo + j]'(by omega) := by simp
  rw [e]
  have e1 : off + lo * 3 + j * 3 = off + (lo + j) * 3 := by omega
  rw [e1]
  exact hcc
theorem Nodes.head {w : World} {a : Option Addr} {cap : Nat} {ns : List Nd} (h : Nodes w (.slice a ns.length cap) ns) (hi : Nat) (h2 : hi ≤ ns.length) : Nodes w (.slice a hi cap) (ns.take hi) := by
 have := h.cut 0 hi (Nat.zero_le _) h2
 have e : (if cap = 0 then a else a.map (·.add (0 * 3))) = a := by
  split
  ·rfl
  ·cases a <;> simp [Addr.add]
 rw [e] at this
 simpa using this
theorem ncut_run_l (a : Option Addr) (n cap lo : Nat) (h2 : lo ≤ n) (h3 : n ≤ cap) : ∀ w : World, (Instr.slice 85 (.slice a n cap) (some (.int .i64 lo)) none none).run Tryz.prog w = .ok (.slice (if cap = lo then a else a.map (·.add (lo * 3))) (n - lo) (cap - lo)) w := by
 intro w
 have hz : Tryz.prog.elem 85 = 91 := by kernel_rfl
 have hs : (sizeOf 91).run Tryz.prog w = .ok 3 w := by kernel_rfl
 rw [run_slice_l w 85 a n cap (by rw [hz]; exact Tryz.underlying85) .i64 _ (by omega) (by omega), hz, hs]
 simp only [Result.andThen, sliced, Int.toNat_natCast]
def Kids (w0 w : World) (N : Nat) (v : Value) (e : List Nd) (b : Nat → Nat) (A : Nat) : Prop :=
 ∃ a cap, v = .slice a A cap ∧ A ≤ cap ∧ cap ≤ 9223372036854775807 ∧ (0 < A → ∃ B, a = some ⟨B, 0, none⟩ ∧ N ≤ B ∧ B < w.heap.size ∧ ∀ i, i < A → ∃ vi, w.cell? ⟨B, i, none⟩ = some vi ∧ Nodes w0 vi (kid e b i))
theorem Kids.below {w0 w w' : World} {N : Nat} {v : Value} {e : List Nd} {b : Nat → Nat} {A : Nat} (h : Kids w0 w N v e b A) (hb : Below w.heap.size w w') : Kids w0 w' N v e b A := by
 obtain ⟨a, cap, rfl, hl, hm, h⟩ := h
 refine ⟨a, cap, rfl, hl, hm, fun h0 => ?_⟩
 obtain ⟨B, rfl, hN, hB, hc⟩ := h h0
 refine ⟨B, rfl, hN, Nat.lt_of_lt_of_le hB hb.size, fun i hi => ?_⟩
 obtain ⟨vi, h1, h2⟩ := hc i hi
 exact ⟨vi, (hb.cell (p := ⟨B, i, none⟩) (World.block_lt_of_cell? _ _ h1)).trans h1, h2⟩
theorem info_nodes : (Tryz.prog.info? 85).map (fun i => (i.zero, i.size, i.bytes)) = some (some (.slice none 0 0), 1, 24) := by kernel_rfl
end
section
open Go.RowKit
def Ints (w : World) (v : Value) (l : List Int) : Prop := ∃ a cap, v = .slice a l.length cap ∧ (0 < l.length → ∃ b, a = some ⟨b, 0, none⟩ ∧ ∀ j (h : j < l.length), w.cell? ⟨b, j, none⟩ = some (.int .i64 l[j]))
theorem Ints.below {w w' : World} {v : Value} {l : List Int} (h : Ints w v l) (hb : Below w.heap.size w w') : Ints w' v l := by
 obtain ⟨a, cap, rfl, h⟩ := h
 refine ⟨a, cap, rfl, fun h0 => ?_⟩
 obtain ⟨b, rfl, hc⟩ := h h0
 exact ⟨b, rfl, fun j hj => (hb.cell (p := ⟨b, j, none⟩) (World.block_lt_of_cell? _ _ (hc j hj))).trans (hc j hj)⟩
theorem own_ints {w : World} {N : Nat} {v : Value} {l : List Int} (h : w.ownsRow N 2 1 v l.length (l.map (Value.int .i64))) : Ints w v l := by
 have h0 := h
 obtain ⟨hl, h⟩ := h
 rcases h with ⟨rfl, hz⟩ | ⟨g, cap, cur, rfl, hg, hh, hc1, hc2, hc3, hc4⟩
 ·exact ⟨none, 0, by rw [hz], fun h => absurd h (by omega)⟩
 ·refine ⟨_, cap, rfl, fun _ => ⟨g, rfl, fun j hj => ?_⟩⟩
  have := h0.cells (g := g) rfl j (.int .i64 l[j]) (by simp [hj])
  have e : (⟨g, 0, none⟩ : Addr).add j = ⟨g, j, none⟩ := by simp only [Addr.add]; split <;> simp_all
  rw [e] at this
  exact this
theorem ownb_keep {w w' : World} {N : Nat} {v : Value} {n : Nat} {xs : List Value} (h : w.ownsRow N 2 1 v n xs) (hb : ∀ g, N ≤ g → g < w.heap.size → w'.heap[g]? = w.heap[g]?) : w'.ownsRow N 2 1 v n xs := by
 obtain ⟨g1, g2⟩ := h
 refine ⟨g1, ?_⟩
 rcases g2 with g2 | ⟨g, cap, cur, rfl, g3, g4, g5⟩
 ·exact .inl g2
 ·refine .inr ⟨g, cap, cur, rfl, g3, ?_, g5⟩
  rw [hb g g3 (Array.getElem?_eq_some_iff.1 g4).1]
  exact g4
theorem ownb_below {w w' : World} {N : Nat} {v : Value} {n : Nat} {xs : List Value} (h : w.ownsRow N 2 1 v n xs) (hb : Below w.heap.size w w') : w'.ownsRow N 2 1 v n xs := ownb_keep h fun g _ hg => hb.block g hg
end
section
open Go.RowKit
theorem from_beg {ns : List Nd} {k i : Nat} {r : Int} (hk : k ≤ ns.length) (hb : begP ns k i) (h : fromP (ns.take k) r) : r = i := by
 have hlen : (ns.take k).length = k := by simp; omega
 obtain ⟨b1, b2, b3⟩ := hb
 rcases h with ⟨i', rfl, h1, h2, h3⟩ | ⟨rfl, h1⟩
 ·rw [hlen] at h1 h3
  have : i' = i := by
   rcases Nat.lt_trichotomy i' i with h | h | h
   ·have := h3 i h (by omega); omega
   ·exact h
   ·have := b3 i' h (by omega); omega
  omega
 ·have := h1 i (by rw [hlen]; omega)
  omega
theorem nhead_run (a : Option Addr) (n cap hi : Nat) (h2 : hi ≤ n) (h3 : n ≤ cap) : ∀ w : World, (Instr.slice 85 (.slice a n cap) none (some (.int .i64 (hi : Int))) none).run Tryz.prog w = .ok (.slice a hi cap) w := by
 intro w
 have hz : Tryz.prog.elem 85 = 91 := by kernel_rfl
 have hs : (sizeOf 91).run Tryz.prog w = .ok 3 w := by kernel_rfl
 rw [run_slice_h w 85 a n cap (by rw [hz]; exact Tryz.underlying85) .i64 _ (by omega) (by omega), hz, hs]
 simp only [Result.andThen, sliced, Int.toNat_natCast, Nat.sub_zero, Nat.zero_mul]
 have e : (if cap = 0 then a else a.map (·.add 0)) = a := by
  split
  ·rfl
  ·cases a <;> simp [Addr.add]
 rw [e]
def KRow (w0 w : World) (N : Nat) (v : Value) (e : List Nd) (b : Nat → Nat) (A i : Nat) : Prop :=
 ∃ (B cap : Nat) (vs : List Value), v = .slice (some ⟨B, 0, none⟩) (A - i) cap ∧ A - i ≤ cap ∧ cap ≤ 9223372036854775807 ∧ N ≤ B ∧ B < w.heap.size ∧ vs.length = A - i ∧ ∀ j (h : j < vs.length), w.cell? ⟨B, j, none⟩ = some vs[j] ∧ Nodes w0 vs[j] (kid e b (i + j))
theorem KRow.below {w0 w w' : World} {N : Nat} {v : Value} {e : List Nd} {b : Nat → Nat} {A i : Nat} (h : KRow w0 w N v e b A i) (hb : Below w.heap.size w w') : KRow w0 w' N v e b A i := by
 obtain ⟨B, cap, vs, rfl, h1, h2, h3, h4, h5, h6⟩ := h
 refine ⟨B, cap, vs, rfl, h1, h2, h3, Nat.lt_of_lt_of_le h4 hb.size, h5, fun j hj => ⟨(hb.cell (p := ⟨B, j, none⟩) h4).trans (h6 j hj).1, (h6 j hj).2⟩⟩
theorem KRow.kids {w0 w : World} {N : Nat} {v : Value} {e : List Nd} {b : Nat → Nat} {A : Nat} (h : KRow w0 w N v e b A 0) : Kids w0 w N v e b A := by
 obtain ⟨B, cap, vs, rfl, h1, h2, h3, h4, h5, h6⟩ := h
 rw [Nat.sub_zero] at *
 refine ⟨_, cap, rfl, h1, h2, fun _ => ⟨B, rfl, h3, h4, fun i hi => ?_⟩⟩
 have := h6 i (by omega)
 rw [Nat.zero_add] at this
 exact ⟨_, this⟩
theorem nodes_one {w : World} {v : Value} {ns : List Nd} (h : Nodes w v ns) : v.oneCell' = true := by
 obtain ⟨a, cap, rfl, _⟩ := h
 rfl
theorem addr0 (g j : Nat) : (⟨g, 0, none⟩ : Addr).add j = ⟨g, j, none⟩ := by
 simp [Addr.add]
 try (intro h; omega)
theorem KRow.cons {w0 w w' : World} {N : Nat} {v' u : Value} {vs : List Value} {e : List Nd} {b : Nat → Nat} {A i n : Nat} (hi : i < A) (hvl : vs.length = A - (i + 1)) (hvs : ∀ j (h : j < vs.length), Nodes w0 vs[j] (kid e b (i + 1 + j))) (hu : Nodes w0 u (kid e b i)) (hown : w'.ownsRow N 85 1 v' (1 + n) ([u] ++ vs)) (hn : n = A - (i + 1)) : KRow w0 w' N v' e b A i := by
 have hown0 := hown
 obtain ⟨hlen, h⟩ := hown
 rcases h with ⟨_, h0⟩ | ⟨g, cap, cur, rfl, hg, hh, hc1, hc2, hc3, hc4⟩
 ·omega
 ·refine ⟨g, cap, u :: vs, by rw [show 1 + n = A - i by omega], by omega, by simp only [maxLen] at hc2; omega, hg, (Array.getElem?_eq_some_iff.1 hh).1, by simp; omega, fun j hj => ?_⟩
  have hcell := hown0.cells (g := g) rfl j ((u :: vs)[j]) (by simp [List.getElem?_eq_getElem hj])
  rw [addr0] at hcell
  refine ⟨hcell, ?_⟩
  cases j with
  | zero => simpa using hu
  | succ j =>
   have := hvs j (by simpa using hj)
   simpa [Nat.add_comm, Nat.add_left_comm, Nat.add_assoc] using this
set_option maxRecDepth 20000 in
set_option maxHeartbeats 1000000 in
theorem kids_any (w0 : World) (v : Value) (e : List Nd) (A : Nat) (b : Nat → Nat) (w : World) (hl : e.length ≤ 1048576) (hc : Nodes w0 v e) (hB0 : Below w0.heap.size w0 w) (hb : Cut e A b) :
  Calls Tryz.prog 123 #[v] w fun r w' => ∃ v', r = .returned v' ∧ Kids w0 w' w.heap.size v' e b A ∧ Below w.heap.size w w' := by
 have HN : Hid (Nodes w0 v e) := hc
 have HB0 : Hid (Below w0.heap.size w0 w) := hB0
 have HB : Hid (Cut e A b) := hb
 obtain ⟨a, cap, rfl, hcl, hcm, -⟩ := hc
 have hpos := hb.len
 obtain ⟨m, hm⟩ : ∃ m, e.length = m + 1 := ⟨e.length - 1, by omega⟩
 have hA6 := hb.arA
 have hA6' : (A : Int) ≤ 6 := by omega
 obtain ⟨i0, hi, hz0, hz1, hz2⟩ := info_parts info_nodes
 have HR : Hid (∀ W : World, Below w.heap.size w W → Calls Tryz.prog 110 #[.slice a e.length cap] W fun r w' => r = .returned (.agg #[.int .i64 (rootN e).kind, .int .i64 (rootN e).val, .string (rootN e).name]) ∧ Below W.heap.size W w') := fun W hW => by
  have := root_any _ e W hpos hl (HN.out.below (HB0.out.trans (hW.mono HB0.out.size)))
  rw [← rootN_eq e hpos] at this
  exact this
 have HA : Hid (∀ W : World, Calls Tryz.prog 143 #[.agg #[.int .i64 (rootN e).kind, .int .i64 (rootN e).val, .string (rootN e).name]] W fun r w' => r = .returned (.int .i64 A) ∧ Below W.heap.size W w') := fun W => by
  have := arity_nd (rootN e) W
  rw [hb.ar] at this
  exact this
 generalize (rootN e).kind = rk at HR HA
 generalize (rootN e).val = rv at HR HA
 generalize (rootN e).name = rn at HR HA
 have HM : Hid (e.length = m + 1) := hm
 have e1 : ((m + 1 : Nat) : Int) - 1 = (m : Int) := by omega
 rw [hm] at hl hcl hpos HN HR ⊢
 clear hb hB0 hm
 have hnr := nhead_run a (m + 1) cap m (by omega) hcl
 go_enter Tryz.func123, Tryz.ntmps123
 go_wp2_with fail
 refine (HR.out _ ((Below.refl _ _).alloc (Nat.le_refl _) _)).mono ?_
 rintro x w1 ⟨rfl, hb1⟩
 go_wp2_with fail
 refine (HA.out w1).mono ?_
 rintro x w2 ⟨rfl, hb2⟩
 have hbW : Below w.heap.size w w2 := (((Below.refl _ _).alloc (Nat.le_refl _) _).trans (hb1.mono (by simp))).trans (hb2.mono (by have := hb1.size; simp at this; omega))
 have hs1 := hb1.size
 have hs2 := hb2.size
 simp only [World.size_alloc] at hs1
 have HK0 : Hid (KRow w0 w2 w.heap.size (.slice (some ⟨w.heap.size, 0, none⟩) 0 0) e b A A) := ⟨w.heap.size, 0, [], by rw [Nat.sub_self], by omega, by omega, Nat.le_refl _, by omega, by simp, fun j hj => absurd hj (by simp)⟩
 have HBW : Hid (Below w.heap.size w w2) := hbW
 clear hb1 hb2 hbW hs1 hs2 hnr
 go_wp2_with fail
 go_loopw [3, 4, 5] (fun rs ot ix wr => ∃ (k : Nat), k ≤ A ∧ ix = .int .i64 (k : Int) ∧ rs = .slice a (b k) cap ∧ KRow w0 wr w.heap.size ot e b A k ∧ Below w.heap.size w wr) (fun _ _ ix _ => (RowKit.intOf ix).toNat)
 case atStart => exact ⟨A, Nat.le_refl _, rfl, by rw [HB.out.last, HM.out]; rfl, HK0.out, HBW.out⟩
 case round =>
  obtain ⟨k, hk, rfl, rfl, hK, hB⟩ := hrel
  have HK : Hid _ := hK
  rcases Nat.eq_zero_or_pos k with rfl | hk0
  ·have HKs : Hid (Kids w0 wr w.heap.size u4 e b A) := hK.kids
   clear hK
   go_wp2_with fail
   exact bodyPost_ret (v := u4) (by simp [results, Tryz.results123, go_sem]) rfl ⟨_, rfl, HKs.out, hB⟩
  ·obtain ⟨i, rfl⟩ : ∃ i, k = i + 1 := ⟨k - 1, by omega⟩
   have hbe := (HB.out.beg i (by omega)).1
   have hble := HB.out.le' (i + 1) (by omega)
   rw [HM.out] at hble
   have HC : Hid (Calls Tryz.prog 125 #[.slice a (b (i + 1)) cap] wr fun x w' => x = .returned (.int .i64 (b i)) ∧ Below wr.heap.size wr w') := by
    have hNh : Nodes wr (.slice a (b (i + 1)) cap) (e.take (b (i + 1))) := (Nodes.head (by rw [HM.out]; exact HN.out.below (HB0.out.trans (hB.mono HB0.out.size))) (b (i + 1)) (by rw [HM.out]; omega))
    refine (from_any _ (e.take (b (i + 1))) wr (by simp; omega) (fun n hn => HB.out.good n (List.mem_of_mem_take hn)) hNh).mono ?_
    rintro x w' ⟨r, hf, -, -, rfl, hb⟩
    rw [from_beg (by rw [HM.out]; omega) (HB.out.beg i (by omega)) hf]
    exact ⟨rfl, hb⟩
   have hcut := ncut_run_l a (b (i + 1)) cap (b i) (by omega) (by omega)
   have hhd := nhead_run a (b (i + 1)) cap (b i) (by omega) (by omega)
   have HNC : Hid (Nodes w0 (.slice (if cap = b i then a else a.map (·.add (b i * 3))) (b (i + 1) - b i) (cap - b i)) (kid e b i)) := Nodes.cut (by rw [HM.out]; exact HN.out) (b i) (b (i + 1)) (by omega) (by rw [HM.out]; omega)
   generalize (if cap = b i then a else a.map (·.add (b i * 3))) = ua at hcut HNC
   generalize b (i + 1) - b i = un at hcut HNC
   generalize cap - b i = uc at hcut HNC
   obtain ⟨B, kc, vs, rfl, k1, k2, k3, k4, k5, k6⟩ := hK
   have HV : Hid (∀ j (h : j < vs.length), Nodes w0 vs[j] (kid e b (i + 1 + j))) := fun j hj => (k6 j hj).2
   have HVC : Hid (∀ j (h : j < vs.length), wr.cell? ⟨B, j, none⟩ = some vs[j]) := fun j hj => (k6 j hj).1
   clear k6 HK
   generalize hbi : b i = bi at *
   generalize hbi1 : b (i + 1) = bi1 at *
   go_wp2_with fail
   refine HC.out.mono ?_
   rintro x w3 ⟨rfl, hb3⟩
   have hB3 := hB.trans (hb3.mono hB.size)
   have HNews : Hid (∀ o j u, vs[j]? = some u → (w3.alloc o).cell? ((⟨B, 0, none⟩ : Addr).add j) = some u) := fun o j u hj => by
    obtain ⟨hlt, rfl⟩ := List.getElem?_eq_some_iff.1 hj
    rw [addr0, ((hb3.alloc hb3.size o)).cell (p := ⟨B, j, none⟩) k4]
    exact HVC.out j hlt
   have HOne : Hid (∀ u ∈ vs, u.oneCell' = true) := fun u hu => by
    obtain ⟨j, hj, rfl⟩ := List.mem_iff_getElem.1 hu
    exact nodes_one (HV.out j hj)
   have hs3 := hB3.size
   have hs3' := hb3.size
   go_wp2_with (at_builtin; refine wpList_append_own _ rfl _ _ 207 rfl w.heap.size 85 i0 (.slice none 0 0) 1 24 Tryz.underlying207 hi hz0 hz1 hz2 rfl (by decide) _ 1 [.slice ua un uc] rfl (World.ownsRow_lit w3 #[.slice ua un uc] 1 hs3 (by decide) rfl) ⟨B, 0, none⟩ (A - (i + 1)) kc vs rfl (by rw [k5, Nat.mul_one]) (HNews.out _) HOne.out (by unfold maxLen; omega) (by omega) (by simp; omega) ?_)
   intro v' w4 hown hgrow _
   have hB4 : Below w.heap.size w w4 := (hB3.alloc hs3 _).grown hgrow (by simp; omega) (fun k hk => by simp only [Value.ownBlock, Option.some.injEq] at hk; omega)
   have HKc : Hid (KRow w0 w4 w.heap.size v' e b A i) := KRow.cons (w := w) (by omega) k5 HV.out HNC.out hown rfl
   clear hown hgrow
   go_wp2_with fail
   go_roundw
   case rel => exact ⟨i, by omega, by go_num, by rw [hbi], HKc.out, hB4⟩
   case measure => simp [RowKit.intOf]
end
end Go.Proofs.YtjhmgjimppflhaaGreatDoor
namespace Go.Proofs.YtjhmgjimppflhaaGreatDoor
set_option linter.unusedVariables false
set_option linter.unusedSimpArgs false
set_option maxRecDepth 100000
set_option maxHeartbeats 16000000
section
open Go.RowKit
theorem box65 {w w' : World} {t u : TypeId} {x0 x1 x2 x3 x4 x5 y0 y1 y2 y3 y4 : Value} (h : Below (w.heap.size + 1 + 1) ((w.alloc (.cells #[x0, x1, x2, x3, x4, x5] t)).alloc (.cells #[y0, y1, y2, y3, y4] u)) w') :
  (w'.cell? ⟨w.heap.size, 0, none⟩ = some x0 ∧ w'.cell? ⟨w.heap.size, 1, none⟩ = some x1 ∧ w'.cell? ⟨w.heap.size, 2, none⟩ = some x2 ∧ w'.cell? ⟨w.heap.size, 3, none⟩ = some x3 ∧ w'.cell? ⟨w.heap.size, 4, none⟩ = some x4 ∧ w'.cell? ⟨w.heap.size, 5, none⟩ = some x5) ∧
  (w'.cell? ⟨w.heap.size + 1, 0, none⟩ = some y0 ∧ w'.cell? ⟨w.heap.size + 1, 1, none⟩ = some y1 ∧ w'.cell? ⟨w.heap.size + 1, 2, none⟩ = some y2 ∧ w'.cell? ⟨w.heap.size + 1, 3, none⟩ = some y3 ∧ w'.cell? ⟨w.heap.size + 1, 4, none⟩ = some y4) := by
 have e0 : (⟨w.heap.size + 1, 0, none⟩ : Addr) = ⟨(w.alloc (.cells #[x0, x1, x2, x3, x4, x5] t)).heap.size, 0, none⟩ := by simp
 refine ⟨⟨?_, ?_, ?_, ?_, ?_, ?_⟩, ?_, ?_, ?_, ?_, ?_⟩ <;> (rw [h.cell (by first | (simp; done) | (simp; omega))]; simp)
theorem two_below {w w' : World} {a b : Obj} (h : Below (w.heap.size + 1 + 1) ((w.alloc a).alloc b) w') : Below w.heap.size w w' :=
 (((Below.refl _ _).alloc (Nat.le_refl _) _).alloc (by simp) _).trans (h.mono (by omega))
set_option maxHeartbeats 2000000 in
theorem vstmt1 (s : ByteArray) (ve vf : Value) (es fs : List Nd) (t l : Int) (w : World) (hT : Tab w) (hle : es.length ≤ 1048576) (hlf : fs.length ≤ 1048576) (he : Nodes w ve es) (hf : Nodes w vf fs) :
  Calls Tryz.prog 96 #[.agg #[.int .i64 1, .string s, ve, vf, .int .i64 t, .int .i64 l]] w fun e w' => e = .returned (.bool (stmtB ⟨1, s, es, fs, t, l⟩)) ∧ Below w.heap.size w w' := by
 have HE : Hid (Nodes w ve es) := he
 have HF : Hid (Nodes w vf fs) := hf
 obtain ⟨ae, ce, rfl, -, -, -⟩ := he
 obtain ⟨af, cf, rfl, -, -, -⟩ := hf
 have HT : Hid (Tab w) := hT
 clear hT
 have hsz := HT.out.size
 have c0 : (w.alloc (.cells #[.int .i64 1, .string s, .slice ae es.length ce, .slice af fs.length cf, .int .i64 t, .int .i64 l] 88)).cell? ⟨1, 5, none⟩ = some (.bool true) := HT.out.stmtUp 5 (by omega) _
 have c1 : (w.alloc (.cells #[.int .i64 1, .string s, .slice ae es.length ce, .slice af fs.length cf, .int .i64 t, .int .i64 l] 88)).cell? ⟨1, 6, none⟩ = some (.bool false) := HT.out.stmtUp 6 (by omega) _
 have c2 : (w.alloc (.cells #[.int .i64 1, .string s, .slice ae es.length ce, .slice af fs.length cf, .int .i64 t, .int .i64 l] 88)).cell? ⟨1, 7, none⟩ = some (.bool false) := HT.out.stmtUp 7 (by omega) _
 have c3 : (w.alloc (.cells #[.int .i64 1, .string s, .slice ae es.length ce, .slice af fs.length cf, .int .i64 t, .int .i64 l] 88)).cell? ⟨1, 8, none⟩ = some (.bool false) := HT.out.stmtUp 8 (by omega) _
 have c4 : (w.alloc (.cells #[.int .i64 1, .string s, .slice ae es.length ce, .slice af fs.length cf, .int .i64 t, .int .i64 l] 88)).cell? ⟨1, 9, none⟩ = some (.bool false) := HT.out.stmtUp 9 (by omega) _
 go_enter Tryz.func96, Tryz.ntmps96
 go_wp2_with fail
 refine (asked_yes _ _).mono ?_
 rintro e w1 ⟨rfl, hb1⟩
 simp only [World.size_alloc] at hb1
 have hB1 := two_below hb1
 obtain ⟨⟨x0, x1, x2, x3, x4, x5⟩, y0, y1, y2, y3, y4⟩ := box65 hb1
 clear c0 c1 c2 c3 c4
 cases hn : nameB s
 ·go_wp2_with fail
  go_ret
  exact ⟨ret_bool (by simp only [stmtB]; simp [hn]), hB1⟩
 go_wp2_with fail
 refine (one_any _ es _ (HT.out.below hsz hB1) hle (HE.out.below hB1)).mono ?_
 rintro e w2 ⟨rfl, hb2⟩
 have hb2' := hb1.trans (hb2.mono (by have := hb1.size; simp at this; omega))
 have hB2 := two_below hb2'
 clear x0 x1 x2 x3 x4 x5 y0 y1 y2 y3 y4
 obtain ⟨⟨x0, x1, x2, x3, x4, x5⟩, y0, y1, y2, y3, y4⟩ := box65 hb2'
 cases ho : oneB es
 ·go_wp2_with fail
  go_ret
  exact ⟨ret_bool (by simp only [stmtB]; simp [hn, ho]), hB2⟩
 by_cases hf0 : fs.length = 0
 case neg =>
  have hf1 : ((fs.length : Int) == 0) = false := by simp only [beq_eq_false_iff_ne]; omega
  have hf2 : ((fs.length : Int) != 0) = true := by simp only [bne_iff_ne]; omega
  go_wp2_with fail
  go_ret
  refine ⟨ret_bool ?_, hB2⟩
  have : (fs.length == 0) = false := by simpa using hf0
  simp only [stmtB]; simp [hn, ho, this, hf0]
 have hf1 : ((fs.length : Int) == 0) = true := by simp only [beq_iff_eq]; omega
 have hf2 : ((fs.length : Int) != 0) = false := by simp only [bne_eq_false_iff_eq]; omega
 have HF0 : Hid (fs.length = 0) := hf0
 clear hf0
 by_cases ht : t = 0
 ·have ht1 : (t == 0) = true := by simpa using ht
  clear ht
  go_wp2_with fail
  go_ret
  refine ⟨ret_bool ?_, hB2⟩
  have ht : t = 0 := by simpa using ht1
  simp only [stmtB]; simp [hn, ho, HF0.out, ht]
 ·have ht1 : (t == 0) = false := by simpa using ht
  go_wp2_with fail
  go_ret
  refine ⟨ret_bool ?_, hB2⟩
  simp only [stmtB]; simp [hn, ho, HF0.out, ht]
set_option maxHeartbeats 2000000 in
theorem vstmt2 (s : ByteArray) (ve vf : Value) (es fs : List Nd) (t l : Int) (w : World) (hT : Tab w) (hle : es.length ≤ 1048576) (hlf : fs.length ≤ 1048576) (he : Nodes w ve es) (hf : Nodes w vf fs) :
  Calls Tryz.prog 96 #[.agg #[.int .i64 2, .string s, ve, vf, .int .i64 t, .int .i64 l]] w fun e w' => e = .returned (.bool (stmtB ⟨2, s, es, fs, t, l⟩)) ∧ Below w.heap.size w w' := by
 have HE : Hid (Nodes w ve es) := he
 have HF : Hid (Nodes w vf fs) := hf
 obtain ⟨ae, ce, rfl, -, -, -⟩ := he
 obtain ⟨af, cf, rfl, -, -, -⟩ := hf
 have HT : Hid (Tab w) := hT
 clear hT
 have hsz := HT.out.size
 have c0 : (w.alloc (.cells #[.int .i64 2, .string s, .slice ae es.length ce, .slice af fs.length cf, .int .i64 t, .int .i64 l] 88)).cell? ⟨1, 10, none⟩ = some (.bool true) := HT.out.stmtUp 10 (by omega) _
 have c1 : (w.alloc (.cells #[.int .i64 2, .string s, .slice ae es.length ce, .slice af fs.length cf, .int .i64 t, .int .i64 l] 88)).cell? ⟨1, 11, none⟩ = some (.bool false) := HT.out.stmtUp 11 (by omega) _
 have c2 : (w.alloc (.cells #[.int .i64 2, .string s, .slice ae es.length ce, .slice af fs.length cf, .int .i64 t, .int .i64 l] 88)).cell? ⟨1, 12, none⟩ = some (.bool false) := HT.out.stmtUp 12 (by omega) _
 have c3 : (w.alloc (.cells #[.int .i64 2, .string s, .slice ae es.length ce, .slice af fs.length cf, .int .i64 t, .int .i64 l] 88)).cell? ⟨1, 13, none⟩ = some (.bool false) := HT.out.stmtUp 13 (by omega) _
 have c4 : (w.alloc (.cells #[.int .i64 2, .string s, .slice ae es.length ce, .slice af fs.length cf, .int .i64 t, .int .i64 l] 88)).cell? ⟨1, 14, none⟩ = some (.bool false) := HT.out.stmtUp 14 (by omega) _
 go_enter Tryz.func96, Tryz.ntmps96
 go_wp2_with fail
 refine (asked_yes _ _).mono ?_
 rintro e w1 ⟨rfl, hb1⟩
 simp only [World.size_alloc] at hb1
 have hB1 := two_below hb1
 obtain ⟨⟨x0, x1, x2, x3, x4, x5⟩, y0, y1, y2, y3, y4⟩ := box65 hb1
 clear c0 c1 c2 c3 c4
 cases hn : nameB s
 ·go_wp2_with fail
  go_ret
  exact ⟨ret_bool (by simp only [stmtB]; simp [hn]), hB1⟩
 go_wp2_with fail
 refine (one_any _ es _ (HT.out.below hsz hB1) hle (HE.out.below hB1)).mono ?_
 rintro e w2 ⟨rfl, hb2⟩
 have hb2' := hb1.trans (hb2.mono (by have := hb1.size; simp at this; omega))
 have hB2 := two_below hb2'
 clear x0 x1 x2 x3 x4 x5 y0 y1 y2 y3 y4
 obtain ⟨⟨x0, x1, x2, x3, x4, x5⟩, y0, y1, y2, y3, y4⟩ := box65 hb2'
 cases ho : oneB es
 ·go_wp2_with fail
  go_ret
  exact ⟨ret_bool (by simp only [stmtB]; simp [hn, ho]), hB2⟩
 by_cases hf0 : fs.length = 0
 case neg =>
  have hf1 : ((fs.length : Int) == 0) = false := by simp only [beq_eq_false_iff_ne]; omega
  have hf2 : ((fs.length : Int) != 0) = true := by simp only [bne_iff_ne]; omega
  go_wp2_with fail
  go_ret
  refine ⟨ret_bool ?_, hB2⟩
  have : (fs.length == 0) = false := by simpa using hf0
  simp only [stmtB]; simp [hn, ho, this, hf0]
 have hf1 : ((fs.length : Int) == 0) = true := by simp only [beq_iff_eq]; omega
 have hf2 : ((fs.length : Int) != 0) = false := by simp only [bne_eq_false_iff_eq]; omega
 have HF0 : Hid (fs.length = 0) := hf0
 clear hf0
 by_cases ht : t = 0
 ·have ht1 : (t == 0) = true := by simpa using ht
  clear ht
  go_wp2_with fail
  go_ret
  refine ⟨ret_bool ?_, hB2⟩
  have ht : t = 0 := by simpa using ht1
  simp only [stmtB]; simp [hn, ho, HF0.out, ht]
 ·have ht1 : (t == 0) = false := by simpa using ht
  go_wp2_with fail
  go_ret
  refine ⟨ret_bool ?_, hB2⟩
  simp only [stmtB]; simp [hn, ho, HF0.out, ht]
set_option maxHeartbeats 2000000 in
theorem vstmt3 (s : ByteArray) (ve vf : Value) (es fs : List Nd) (t l : Int) (w : World) (hT : Tab w) (hle : es.length ≤ 1048576) (hlf : fs.length ≤ 1048576) (he : Nodes w ve es) (hf : Nodes w vf fs) :
  Calls Tryz.prog 96 #[.agg #[.int .i64 3, .string s, ve, vf, .int .i64 t, .int .i64 l]] w fun e w' => e = .returned (.bool (stmtB ⟨3, s, es, fs, t, l⟩)) ∧ Below w.heap.size w w' := by
 have HE : Hid (Nodes w ve es) := he
 have HF : Hid (Nodes w vf fs) := hf
 obtain ⟨ae, ce, rfl, -, -, -⟩ := he
 obtain ⟨af, cf, rfl, -, -, -⟩ := hf
 have HT : Hid (Tab w) := hT
 clear hT
 have hsz := HT.out.size
 have c0 : (w.alloc (.cells #[.int .i64 3, .string s, .slice ae es.length ce, .slice af fs.length cf, .int .i64 t, .int .i64 l] 88)).cell? ⟨1, 15, none⟩ = some (.bool true) := HT.out.stmtUp 15 (by omega) _
 have c1 : (w.alloc (.cells #[.int .i64 3, .string s, .slice ae es.length ce, .slice af fs.length cf, .int .i64 t, .int .i64 l] 88)).cell? ⟨1, 16, none⟩ = some (.bool true) := HT.out.stmtUp 16 (by omega) _
 have c2 : (w.alloc (.cells #[.int .i64 3, .string s, .slice ae es.length ce, .slice af fs.length cf, .int .i64 t, .int .i64 l] 88)).cell? ⟨1, 17, none⟩ = some (.bool false) := HT.out.stmtUp 17 (by omega) _
 have c3 : (w.alloc (.cells #[.int .i64 3, .string s, .slice ae es.length ce, .slice af fs.length cf, .int .i64 t, .int .i64 l] 88)).cell? ⟨1, 18, none⟩ = some (.bool false) := HT.out.stmtUp 18 (by omega) _
 have c4 : (w.alloc (.cells #[.int .i64 3, .string s, .slice ae es.length ce, .slice af fs.length cf, .int .i64 t, .int .i64 l] 88)).cell? ⟨1, 19, none⟩ = some (.bool false) := HT.out.stmtUp 19 (by omega) _
 go_enter Tryz.func96, Tryz.ntmps96
 go_wp2_with fail
 refine (asked_yes _ _).mono ?_
 rintro e w1 ⟨rfl, hb1⟩
 simp only [World.size_alloc] at hb1
 have hB1 := two_below hb1
 obtain ⟨⟨x0, x1, x2, x3, x4, x5⟩, y0, y1, y2, y3, y4⟩ := box65 hb1
 clear c0 c1 c2 c3 c4
 cases hn : nameB s
 ·go_wp2_with fail
  go_ret
  exact ⟨ret_bool (by simp only [stmtB]; simp [hn]), hB1⟩
 go_wp2_with fail
 refine (one_any _ es _ (HT.out.below hsz hB1) hle (HE.out.below hB1)).mono ?_
 rintro e w2 ⟨rfl, hb2⟩
 have hb2' := hb1.trans (hb2.mono (by have := hb1.size; simp at this; omega))
 have hB2 := two_below hb2'
 clear x0 x1 x2 x3 x4 x5 y0 y1 y2 y3 y4
 obtain ⟨⟨x0, x1, x2, x3, x4, x5⟩, y0, y1, y2, y3, y4⟩ := box65 hb2'
 cases ho : oneB es
 ·go_wp2_with fail
  go_ret
  exact ⟨ret_bool (by simp only [stmtB]; simp [hn, ho]), hB2⟩
 go_wp2_with fail
 refine (one_any _ fs _ (HT.out.below hsz hB2) hlf (HF.out.below hB2)).mono ?_
 rintro e w3 ⟨rfl, hb3⟩
 have hb3' := hb2'.trans (hb3.mono (by have := hb2'.size; simp at this; omega))
 have hB3 := two_below hb3'
 clear x0 x1 x2 x3 x4 x5 y0 y1 y2 y3 y4
 obtain ⟨⟨x0, x1, x2, x3, x4, x5⟩, y0, y1, y2, y3, y4⟩ := box65 hb3'
 cases hof : oneB fs
 ·go_wp2_with fail
  go_ret
  exact ⟨ret_bool (by simp only [stmtB]; simp [hn, ho, hof]), hB3⟩
 by_cases ht : t = 0
 ·have ht1 : (t == 0) = true := by simpa using ht
  clear ht
  go_wp2_with fail
  go_ret
  refine ⟨ret_bool ?_, hB3⟩
  have ht : t = 0 := by simpa using ht1
  simp only [stmtB]; simp [hn, ho, hof, ht]
 ·have ht1 : (t == 0) = false := by simpa using ht
  go_wp2_with fail
  go_ret
  refine ⟨ret_bool ?_, hB3⟩
  simp only [stmtB]; simp [hn, ho, hof, ht]
set_option maxHeartbeats 2000000 in
theorem vstmt4 (s : ByteArray) (ve vf : Value) (es fs : List Nd) (t l : Int) (w : World) (hT : Tab w) (hle : es.length ≤ 1048576) (hlf : fs.length ≤ 1048576) (he : Nodes w ve es) (hf : Nodes w vf fs) :
  Calls Tryz.prog 96 #[.agg #[.int .i64 4, .string s, ve, vf, .int .i64 t, .int .i64 l]] w fun e w' => e = .returned (.bool (stmtB ⟨4, s, es, fs, t, l⟩)) ∧ Below w.heap.size w w' := by
 have HE : Hid (Nodes w ve es) := he
 have HF : Hid (Nodes w vf fs) := hf
 obtain ⟨ae, ce, rfl, -, -, -⟩ := he
 obtain ⟨af, cf, rfl, -, -, -⟩ := hf
 have HT : Hid (Tab w) := hT
 clear hT
 have hsz := HT.out.size
 have c0 : (w.alloc (.cells #[.int .i64 4, .string s, .slice ae es.length ce, .slice af fs.length cf, .int .i64 t, .int .i64 l] 88)).cell? ⟨1, 20, none⟩ = some (.bool false) := HT.out.stmtUp 20 (by omega) _
 have c1 : (w.alloc (.cells #[.int .i64 4, .string s, .slice ae es.length ce, .slice af fs.length cf, .int .i64 t, .int .i64 l] 88)).cell? ⟨1, 21, none⟩ = some (.bool false) := HT.out.stmtUp 21 (by omega) _
 have c2 : (w.alloc (.cells #[.int .i64 4, .string s, .slice ae es.length ce, .slice af fs.length cf, .int .i64 t, .int .i64 l] 88)).cell? ⟨1, 22, none⟩ = some (.bool true) := HT.out.stmtUp 22 (by omega) _
 have c3 : (w.alloc (.cells #[.int .i64 4, .string s, .slice ae es.length ce, .slice af fs.length cf, .int .i64 t, .int .i64 l] 88)).cell? ⟨1, 23, none⟩ = some (.bool true) := HT.out.stmtUp 23 (by omega) _
 have c4 : (w.alloc (.cells #[.int .i64 4, .string s, .slice ae es.length ce, .slice af fs.length cf, .int .i64 t, .int .i64 l] 88)).cell? ⟨1, 24, none⟩ = some (.bool false) := HT.out.stmtUp 24 (by omega) _
 go_enter Tryz.func96, Tryz.ntmps96
 go_wp2_with fail
 refine (asked_no _ _).mono ?_
 rintro e w1 ⟨rfl, hb1⟩
 simp only [World.size_alloc] at hb1
 have hB1 := two_below hb1
 obtain ⟨⟨x0, x1, x2, x3, x4, x5⟩, y0, y1, y2, y3, y4⟩ := box65 hb1
 clear c0 c1 c2 c3 c4
 cases hn : s.toList == []
 ·go_wp2_with fail
  go_ret
  exact ⟨ret_bool (by simp only [stmtB]; simp [hn]), hB1⟩
 go_wp2_with fail
 refine (one_any _ es _ (HT.out.below hsz hB1) hle (HE.out.below hB1)).mono ?_
 rintro e w2 ⟨rfl, hb2⟩
 have hb2' := hb1.trans (hb2.mono (by have := hb1.size; simp at this; omega))
 have hB2 := two_below hb2'
 clear x0 x1 x2 x3 x4 x5 y0 y1 y2 y3 y4
 obtain ⟨⟨x0, x1, x2, x3, x4, x5⟩, y0, y1, y2, y3, y4⟩ := box65 hb2'
 cases ho : oneB es
 ·go_wp2_with fail
  go_ret
  exact ⟨ret_bool (by simp only [stmtB]; simp [hn, ho]), hB2⟩
 by_cases hf0 : fs.length = 0
 case neg =>
  have hf1 : ((fs.length : Int) == 0) = false := by simp only [beq_eq_false_iff_ne]; omega
  have hf2 : ((fs.length : Int) != 0) = true := by simp only [bne_iff_ne]; omega
  go_wp2_with fail
  go_ret
  refine ⟨ret_bool ?_, hB2⟩
  have : (fs.length == 0) = false := by simpa using hf0
  simp only [stmtB]; simp [hn, ho, this, hf0]
 have hf1 : ((fs.length : Int) == 0) = true := by simp only [beq_iff_eq]; omega
 have hf2 : ((fs.length : Int) != 0) = false := by simp only [bne_eq_false_iff_eq]; omega
 have HF0 : Hid (fs.length = 0) := hf0
 clear hf0
 go_wp2_with fail
 go_ret
 refine ⟨ret_bool ?_, hB2⟩
 simp only [stmtB]; simp [hn, ho, HF0.out]
set_option maxHeartbeats 2000000 in
theorem vstmt5 (s : ByteArray) (ve vf : Value) (es fs : List Nd) (t l : Int) (w : World) (hT : Tab w) (hle : es.length ≤ 1048576) (hlf : fs.length ≤ 1048576) (he : Nodes w ve es) (hf : Nodes w vf fs) :
  Calls Tryz.prog 96 #[.agg #[.int .i64 5, .string s, ve, vf, .int .i64 t, .int .i64 l]] w fun e w' => e = .returned (.bool (stmtB ⟨5, s, es, fs, t, l⟩)) ∧ Below w.heap.size w w' := by
 have HE : Hid (Nodes w ve es) := he
 have HF : Hid (Nodes w vf fs) := hf
 obtain ⟨ae, ce, rfl, -, -, -⟩ := he
 obtain ⟨af, cf, rfl, -, -, -⟩ := hf
 have HT : Hid (Tab w) := hT
 clear hT
 have hsz := HT.out.size
 have c0 : (w.alloc (.cells #[.int .i64 5, .string s, .slice ae es.length ce, .slice af fs.length cf, .int .i64 t, .int .i64 l] 88)).cell? ⟨1, 25, none⟩ = some (.bool false) := HT.out.stmtUp 25 (by omega) _
 have c1 : (w.alloc (.cells #[.int .i64 5, .string s, .slice ae es.length ce, .slice af fs.length cf, .int .i64 t, .int .i64 l] 88)).cell? ⟨1, 26, none⟩ = some (.bool false) := HT.out.stmtUp 26 (by omega) _
 have c2 : (w.alloc (.cells #[.int .i64 5, .string s, .slice ae es.length ce, .slice af fs.length cf, .int .i64 t, .int .i64 l] 88)).cell? ⟨1, 27, none⟩ = some (.bool true) := HT.out.stmtUp 27 (by omega) _
 have c3 : (w.alloc (.cells #[.int .i64 5, .string s, .slice ae es.length ce, .slice af fs.length cf, .int .i64 t, .int .i64 l] 88)).cell? ⟨1, 28, none⟩ = some (.bool false) := HT.out.stmtUp 28 (by omega) _
 have c4 : (w.alloc (.cells #[.int .i64 5, .string s, .slice ae es.length ce, .slice af fs.length cf, .int .i64 t, .int .i64 l] 88)).cell? ⟨1, 29, none⟩ = some (.bool false) := HT.out.stmtUp 29 (by omega) _
 go_enter Tryz.func96, Tryz.ntmps96
 go_wp2_with fail
 refine (asked_no _ _).mono ?_
 rintro e w1 ⟨rfl, hb1⟩
 simp only [World.size_alloc] at hb1
 have hB1 := two_below hb1
 obtain ⟨⟨x0, x1, x2, x3, x4, x5⟩, y0, y1, y2, y3, y4⟩ := box65 hb1
 clear c0 c1 c2 c3 c4
 cases hn : s.toList == []
 ·go_wp2_with fail
  go_ret
  exact ⟨ret_bool (by simp only [stmtB]; simp [hn]), hB1⟩
 go_wp2_with fail
 refine (one_any _ es _ (HT.out.below hsz hB1) hle (HE.out.below hB1)).mono ?_
 rintro e w2 ⟨rfl, hb2⟩
 have hb2' := hb1.trans (hb2.mono (by have := hb1.size; simp at this; omega))
 have hB2 := two_below hb2'
 clear x0 x1 x2 x3 x4 x5 y0 y1 y2 y3 y4
 obtain ⟨⟨x0, x1, x2, x3, x4, x5⟩, y0, y1, y2, y3, y4⟩ := box65 hb2'
 cases ho : oneB es
 ·go_wp2_with fail
  go_ret
  exact ⟨ret_bool (by simp only [stmtB]; simp [hn, ho]), hB2⟩
 by_cases hf0 : fs.length = 0
 case neg =>
  have hf1 : ((fs.length : Int) == 0) = false := by simp only [beq_eq_false_iff_ne]; omega
  have hf2 : ((fs.length : Int) != 0) = true := by simp only [bne_iff_ne]; omega
  go_wp2_with fail
  go_ret
  refine ⟨ret_bool ?_, hB2⟩
  have : (fs.length == 0) = false := by simpa using hf0
  simp only [stmtB]; simp [hn, ho, this, hf0]
 have hf1 : ((fs.length : Int) == 0) = true := by simp only [beq_iff_eq]; omega
 have hf2 : ((fs.length : Int) != 0) = false := by simp only [bne_eq_false_iff_eq]; omega
 have HF0 : Hid (fs.length = 0) := hf0
 clear hf0
 go_wp2_with fail
 go_ret
 refine ⟨ret_bool ?_, hB2⟩
 simp only [stmtB]; simp [hn, ho, HF0.out]
set_option maxHeartbeats 2000000 in
theorem vstmt6 (s : ByteArray) (ve vf : Value) (es fs : List Nd) (t l : Int) (w : World) (hT : Tab w) (hle : es.length ≤ 1048576) (hlf : fs.length ≤ 1048576) (he : Nodes w ve es) (hf : Nodes w vf fs) :
  Calls Tryz.prog 96 #[.agg #[.int .i64 6, .string s, ve, vf, .int .i64 t, .int .i64 l]] w fun e w' => e = .returned (.bool (stmtB ⟨6, s, es, fs, t, l⟩)) ∧ Below w.heap.size w w' := by
 have HE : Hid (Nodes w ve es) := he
 have HF : Hid (Nodes w vf fs) := hf
 obtain ⟨ae, ce, rfl, -, -, -⟩ := he
 obtain ⟨af, cf, rfl, -, -, -⟩ := hf
 have HT : Hid (Tab w) := hT
 clear hT
 have hsz := HT.out.size
 have c0 : (w.alloc (.cells #[.int .i64 6, .string s, .slice ae es.length ce, .slice af fs.length cf, .int .i64 t, .int .i64 l] 88)).cell? ⟨1, 30, none⟩ = some (.bool false) := HT.out.stmtUp 30 (by omega) _
 have c1 : (w.alloc (.cells #[.int .i64 6, .string s, .slice ae es.length ce, .slice af fs.length cf, .int .i64 t, .int .i64 l] 88)).cell? ⟨1, 31, none⟩ = some (.bool false) := HT.out.stmtUp 31 (by omega) _
 have c2 : (w.alloc (.cells #[.int .i64 6, .string s, .slice ae es.length ce, .slice af fs.length cf, .int .i64 t, .int .i64 l] 88)).cell? ⟨1, 32, none⟩ = some (.bool false) := HT.out.stmtUp 32 (by omega) _
 have c3 : (w.alloc (.cells #[.int .i64 6, .string s, .slice ae es.length ce, .slice af fs.length cf, .int .i64 t, .int .i64 l] 88)).cell? ⟨1, 33, none⟩ = some (.bool false) := HT.out.stmtUp 33 (by omega) _
 have c4 : (w.alloc (.cells #[.int .i64 6, .string s, .slice ae es.length ce, .slice af fs.length cf, .int .i64 t, .int .i64 l] 88)).cell? ⟨1, 34, none⟩ = some (.bool false) := HT.out.stmtUp 34 (by omega) _
 go_enter Tryz.func96, Tryz.ntmps96
 go_wp2_with fail
 refine (asked_no _ _).mono ?_
 rintro e w1 ⟨rfl, hb1⟩
 simp only [World.size_alloc] at hb1
 have hB1 := two_below hb1
 obtain ⟨⟨x0, x1, x2, x3, x4, x5⟩, y0, y1, y2, y3, y4⟩ := box65 hb1
 clear c0 c1 c2 c3 c4
 cases hn : s.toList == []
 ·go_wp2_with fail
  go_ret
  exact ⟨ret_bool (by simp only [stmtB]; simp [hn]), hB1⟩
 go_wp2_with fail
 refine (one_any _ es _ (HT.out.below hsz hB1) hle (HE.out.below hB1)).mono ?_
 rintro e w2 ⟨rfl, hb2⟩
 have hb2' := hb1.trans (hb2.mono (by have := hb1.size; simp at this; omega))
 have hB2 := two_below hb2'
 clear x0 x1 x2 x3 x4 x5 y0 y1 y2 y3 y4
 obtain ⟨⟨x0, x1, x2, x3, x4, x5⟩, y0, y1, y2, y3, y4⟩ := box65 hb2'
 cases ho : oneB es
 ·go_wp2_with fail
  go_ret
  exact ⟨ret_bool (by simp only [stmtB]; simp [hn, ho]), hB2⟩
 by_cases hf0 : fs.length = 0
 case neg =>
  have hf1 : ((fs.length : Int) == 0) = false := by simp only [beq_eq_false_iff_ne]; omega
  have hf2 : ((fs.length : Int) != 0) = true := by simp only [bne_iff_ne]; omega
  go_wp2_with fail
  go_ret
  refine ⟨ret_bool ?_, hB2⟩
  have : (fs.length == 0) = false := by simpa using hf0
  simp only [stmtB]; simp [hn, ho, this, hf0]
 have hf1 : ((fs.length : Int) == 0) = true := by simp only [beq_iff_eq]; omega
 have hf2 : ((fs.length : Int) != 0) = false := by simp only [bne_eq_false_iff_eq]; omega
 have HF0 : Hid (fs.length = 0) := hf0
 clear hf0
 by_cases ht : t = 0
 ·have ht1 : (t == 0) = true := by simpa using ht
  clear ht
  go_wp2_with fail
  go_ret
  refine ⟨ret_bool ?_, hB2⟩
  have ht : t = 0 := by simpa using ht1
  simp only [stmtB]; simp [hn, ho, HF0.out, ht]
 ·have ht1 : (t == 0) = false := by simpa using ht
  go_wp2_with fail
  go_ret
  refine ⟨ret_bool ?_, hB2⟩
  simp only [stmtB]; simp [hn, ho, HF0.out, ht]
set_option maxHeartbeats 2000000 in
theorem vstmt7 (s : ByteArray) (ve vf : Value) (es fs : List Nd) (t l : Int) (w : World) (hT : Tab w) (hle : es.length ≤ 1048576) (hlf : fs.length ≤ 1048576) (he : Nodes w ve es) (hf : Nodes w vf fs) :
  Calls Tryz.prog 96 #[.agg #[.int .i64 7, .string s, ve, vf, .int .i64 t, .int .i64 l]] w fun e w' => e = .returned (.bool (stmtB ⟨7, s, es, fs, t, l⟩)) ∧ Below w.heap.size w w' := by
 have HE : Hid (Nodes w ve es) := he
 have HF : Hid (Nodes w vf fs) := hf
 obtain ⟨ae, ce, rfl, -, -, -⟩ := he
 obtain ⟨af, cf, rfl, -, -, -⟩ := hf
 have HT : Hid (Tab w) := hT
 clear hT
 have hsz := HT.out.size
 have c0 : (w.alloc (.cells #[.int .i64 7, .string s, .slice ae es.length ce, .slice af fs.length cf, .int .i64 t, .int .i64 l] 88)).cell? ⟨1, 35, none⟩ = some (.bool false) := HT.out.stmtUp 35 (by omega) _
 have c1 : (w.alloc (.cells #[.int .i64 7, .string s, .slice ae es.length ce, .slice af fs.length cf, .int .i64 t, .int .i64 l] 88)).cell? ⟨1, 36, none⟩ = some (.bool false) := HT.out.stmtUp 36 (by omega) _
 have c2 : (w.alloc (.cells #[.int .i64 7, .string s, .slice ae es.length ce, .slice af fs.length cf, .int .i64 t, .int .i64 l] 88)).cell? ⟨1, 37, none⟩ = some (.bool false) := HT.out.stmtUp 37 (by omega) _
 have c3 : (w.alloc (.cells #[.int .i64 7, .string s, .slice ae es.length ce, .slice af fs.length cf, .int .i64 t, .int .i64 l] 88)).cell? ⟨1, 38, none⟩ = some (.bool false) := HT.out.stmtUp 38 (by omega) _
 have c4 : (w.alloc (.cells #[.int .i64 7, .string s, .slice ae es.length ce, .slice af fs.length cf, .int .i64 t, .int .i64 l] 88)).cell? ⟨1, 39, none⟩ = some (.bool false) := HT.out.stmtUp 39 (by omega) _
 go_enter Tryz.func96, Tryz.ntmps96
 go_wp2_with fail
 refine (asked_no _ _).mono ?_
 rintro e w1 ⟨rfl, hb1⟩
 simp only [World.size_alloc] at hb1
 have hB1 := two_below hb1
 obtain ⟨⟨x0, x1, x2, x3, x4, x5⟩, y0, y1, y2, y3, y4⟩ := box65 hb1
 clear c0 c1 c2 c3 c4
 cases hn : s.toList == []
 ·go_wp2_with fail
  go_ret
  exact ⟨ret_bool (by simp only [stmtB]; simp [hn]), hB1⟩
 go_wp2_with fail
 refine (one_any _ es _ (HT.out.below hsz hB1) hle (HE.out.below hB1)).mono ?_
 rintro e w2 ⟨rfl, hb2⟩
 have hb2' := hb1.trans (hb2.mono (by have := hb1.size; simp at this; omega))
 have hB2 := two_below hb2'
 clear x0 x1 x2 x3 x4 x5 y0 y1 y2 y3 y4
 obtain ⟨⟨x0, x1, x2, x3, x4, x5⟩, y0, y1, y2, y3, y4⟩ := box65 hb2'
 cases ho : oneB es
 ·go_wp2_with fail
  go_ret
  exact ⟨ret_bool (by simp only [stmtB]; simp [hn, ho]), hB2⟩
 by_cases hf0 : fs.length = 0
 case neg =>
  have hf1 : ((fs.length : Int) == 0) = false := by simp only [beq_eq_false_iff_ne]; omega
  have hf2 : ((fs.length : Int) != 0) = true := by simp only [bne_iff_ne]; omega
  go_wp2_with fail
  go_ret
  refine ⟨ret_bool ?_, hB2⟩
  have : (fs.length == 0) = false := by simpa using hf0
  simp only [stmtB]; simp [hn, ho, this, hf0]
 have hf1 : ((fs.length : Int) == 0) = true := by simp only [beq_iff_eq]; omega
 have hf2 : ((fs.length : Int) != 0) = false := by simp only [bne_eq_false_iff_eq]; omega
 have HF0 : Hid (fs.length = 0) := hf0
 clear hf0
 by_cases ht : t = 0
 ·have ht1 : (t == 0) = true := by simpa using ht
  clear ht
  go_wp2_with fail
  go_ret
  refine ⟨ret_bool ?_, hB2⟩
  have ht : t = 0 := by simpa using ht1
  simp only [stmtB]; simp [hn, ho, HF0.out, ht]
 ·have ht1 : (t == 0) = false := by simpa using ht
  go_wp2_with fail
  go_ret
  refine ⟨ret_bool ?_, hB2⟩
  simp only [stmtB]; simp [hn, ho, HF0.out, ht]
set_option maxHeartbeats 2000000 in
theorem vstmt8 (s : ByteArray) (ve vf : Value) (es fs : List Nd) (t l : Int) (w : World) (hT : Tab w) (hle : es.length ≤ 1048576) (hlf : fs.length ≤ 1048576) (he : Nodes w ve es) (hf : Nodes w vf fs) :
  Calls Tryz.prog 96 #[.agg #[.int .i64 8, .string s, ve, vf, .int .i64 t, .int .i64 l]] w fun e w' => e = .returned (.bool (stmtB ⟨8, s, es, fs, t, l⟩)) ∧ Below w.heap.size w w' := by
 have HE : Hid (Nodes w ve es) := he
 have HF : Hid (Nodes w vf fs) := hf
 obtain ⟨ae, ce, rfl, -, -, -⟩ := he
 obtain ⟨af, cf, rfl, -, -, -⟩ := hf
 have HT : Hid (Tab w) := hT
 clear hT
 have hsz := HT.out.size
 have c0 : (w.alloc (.cells #[.int .i64 8, .string s, .slice ae es.length ce, .slice af fs.length cf, .int .i64 t, .int .i64 l] 88)).cell? ⟨1, 40, none⟩ = some (.bool false) := HT.out.stmtUp 40 (by omega) _
 have c1 : (w.alloc (.cells #[.int .i64 8, .string s, .slice ae es.length ce, .slice af fs.length cf, .int .i64 t, .int .i64 l] 88)).cell? ⟨1, 41, none⟩ = some (.bool false) := HT.out.stmtUp 41 (by omega) _
 have c2 : (w.alloc (.cells #[.int .i64 8, .string s, .slice ae es.length ce, .slice af fs.length cf, .int .i64 t, .int .i64 l] 88)).cell? ⟨1, 42, none⟩ = some (.bool false) := HT.out.stmtUp 42 (by omega) _
 have c3 : (w.alloc (.cells #[.int .i64 8, .string s, .slice ae es.length ce, .slice af fs.length cf, .int .i64 t, .int .i64 l] 88)).cell? ⟨1, 43, none⟩ = some (.bool false) := HT.out.stmtUp 43 (by omega) _
 have c4 : (w.alloc (.cells #[.int .i64 8, .string s, .slice ae es.length ce, .slice af fs.length cf, .int .i64 t, .int .i64 l] 88)).cell? ⟨1, 44, none⟩ = some (.bool true) := HT.out.stmtUp 44 (by omega) _
 go_enter Tryz.func96, Tryz.ntmps96
 go_wp2_with fail
 refine (asked_no _ _).mono ?_
 rintro e w1 ⟨rfl, hb1⟩
 simp only [World.size_alloc] at hb1
 have hB1 := two_below hb1
 obtain ⟨⟨x0, x1, x2, x3, x4, x5⟩, y0, y1, y2, y3, y4⟩ := box65 hb1
 clear c0 c1 c2 c3 c4
 cases hn : s.toList == []
 ·go_wp2_with fail
  go_ret
  exact ⟨ret_bool (by simp only [stmtB]; simp [hn]), hB1⟩
 go_wp2_with fail
 refine (one_any _ es _ (HT.out.below hsz hB1) hle (HE.out.below hB1)).mono ?_
 rintro e w2 ⟨rfl, hb2⟩
 have hb2' := hb1.trans (hb2.mono (by have := hb1.size; simp at this; omega))
 have hB2 := two_below hb2'
 clear x0 x1 x2 x3 x4 x5 y0 y1 y2 y3 y4
 obtain ⟨⟨x0, x1, x2, x3, x4, x5⟩, y0, y1, y2, y3, y4⟩ := box65 hb2'
 cases ho : oneB es
 ·go_wp2_with fail
  go_ret
  exact ⟨ret_bool (by simp only [stmtB]; simp [hn, ho]), hB2⟩
 by_cases hf0 : fs.length = 0
 case neg =>
  have hf1 : ((fs.length : Int) == 0) = false := by simp only [beq_eq_false_iff_ne]; omega
  have hf2 : ((fs.length : Int) != 0) = true := by simp only [bne_iff_ne]; omega
  go_wp2_with fail
  go_ret
  refine ⟨ret_bool ?_, hB2⟩
  have : (fs.length == 0) = false := by simpa using hf0
  simp only [stmtB]; simp [hn, ho, this, hf0]
 have hf1 : ((fs.length : Int) == 0) = true := by simp only [beq_iff_eq]; omega
 have hf2 : ((fs.length : Int) != 0) = false := by simp only [bne_eq_false_iff_eq]; omega
 have HF0 : Hid (fs.length = 0) := hf0
 clear hf0
 obtain ⟨m, hm⟩ : ∃ m, es.length = m + 1 := ⟨es.length - 1, by have := oneB_pos ho; omega⟩
 obtain ⟨ae', ce', hse, -, -, hne⟩ := HE.out.below hB2
 obtain ⟨b, off, hae, hnc⟩ := hne (by omega)
 simp only [Value.slice.injEq] at hse
 obtain ⟨d0, d1, d2⟩ := hnc m (by omega)
 have HL : Hid (lastKind es = (es[m]'(by omega)).kind) := by
  have e2 : es.length - 1 = m := by omega
  show lastKind es = _
  simp only [lastKind, e2]
  rw [List.getElem?_eq_getElem (by omega)]
 rw [hse.1, hae, hm] at x2
 have e1 : ((m + 1 : Nat) : Int) - 1 = (m : Int) := by omega
 have hmb : m ≤ 1048576 := by omega
 generalize es[m].kind = q at d0 HL
 clear d1 d2 hnc hne hse hae hm
 by_cases hq : q = 4
 case neg =>
  have hq1 : (q == 4) = false := by simpa using hq
  go_wp2_with fail
  go_ret
  refine ⟨ret_bool ?_, hB2⟩
  simp only [stmtB]; simp [hn, ho, HF0.out, HL.out, hq]
 have hq1 : (q == 4) = true := by simpa using hq
 have HQ : Hid (q = 4) := hq
 clear hq
 by_cases ht : t = 0
 ·have ht1 : (t == 0) = true := by simpa using ht
  clear ht
  go_wp2_with fail
  go_ret
  refine ⟨ret_bool ?_, hB2⟩
  have ht : t = 0 := by simpa using ht1
  simp only [stmtB]; simp [hn, ho, HF0.out, HL.out, HQ.out, ht]
 ·have ht1 : (t == 0) = false := by simpa using ht
  go_wp2_with fail
  go_ret
  refine ⟨ret_bool ?_, hB2⟩
  simp only [stmtB]; simp [hn, ho, HF0.out, HL.out, HQ.out, ht]
set_option maxHeartbeats 1000000 in
theorem vstmtX (k : Int) (s : ByteArray) (ve vf : Value) (es fs : List Nd) (t l : Int) (w : World) (hk : k < 1 ∨ 8 < k) (he : Nodes w ve es) (hf : Nodes w vf fs) :
  Calls Tryz.prog 96 #[.agg #[.int .i64 k, .string s, ve, vf, .int .i64 t, .int .i64 l]] w fun e w' => e = .returned (.bool (stmtB ⟨k, s, es, fs, t, l⟩)) ∧ Below w.heap.size w w' := by
 obtain ⟨ae, ce, rfl, -, -, -⟩ := he
 obtain ⟨af, cf, rfl, -, -, -⟩ := hf
 have hs : stmtB ⟨k, s, es, fs, t, l⟩ = false := by
  have : decide (1 ≤ k ∧ k ≤ 8) = false := by simp; omega
  simp only [stmtB, this, Bool.false_and]
 rw [hs]
 clear hs
 rcases hk with hk | hk
 ·go_enter Tryz.func96, Tryz.ntmps96
  go_wp2_with fail
  go_ret
  exact ⟨rfl, (Below.refl _ _).alloc (Nat.le_refl _) _⟩
 ·have h' : 1 ≤ k := by omega
  go_enter Tryz.func96, Tryz.ntmps96
  go_wp2_with fail
  go_ret
  exact ⟨rfl, (Below.refl _ _).alloc (Nat.le_refl _) _⟩
theorem vstmt_any (s : St) (ve vf : Value) (w : World) (hT : Tab w) (hle : s.e.length ≤ 1048576) (hlf : s.f.length ≤ 1048576) (he : Nodes w ve s.e) (hf : Nodes w vf s.f) :
  Calls Tryz.prog 96 #[.agg #[.int .i64 s.kind, .string s.name, ve, vf, .int .i64 s.thn, .int .i64 s.els]] w fun e w' => e = .returned (.bool (stmtB s)) ∧ Below w.heap.size w w' := by
 obtain ⟨k, s, es, fs, t, l⟩ := s
 by_cases hk : k < 1 ∨ 8 < k
 ·exact vstmtX k s ve vf es fs t l w hk he hf
 have h9 : k = 1 ∨ k = 2 ∨ k = 3 ∨ k = 4 ∨ k = 5 ∨ k = 6 ∨ k = 7 ∨ k = 8 := by omega
 rcases h9 with rfl | rfl | rfl | rfl | rfl | rfl | rfl | rfl
 ·exact vstmt1 s ve vf es fs t l w hT hle hlf he hf
 ·exact vstmt2 s ve vf es fs t l w hT hle hlf he hf
 ·exact vstmt3 s ve vf es fs t l w hT hle hlf he hf
 ·exact vstmt4 s ve vf es fs t l w hT hle hlf he hf
 ·exact vstmt5 s ve vf es fs t l w hT hle hlf he hf
 ·exact vstmt6 s ve vf es fs t l w hT hle hlf he hf
 ·exact vstmt7 s ve vf es fs t l w hT hle hlf he hf
 ·exact vstmt8 s ve vf es fs t l w hT hle hlf he hf
end
section
open Go.RowKit
theorem nameB_empty {s : ByteArray} (h : nameB s = true) : (s.toList == []) = false := by
 have hp := ((nameB_iff s).1 h).1
 have hl : s.toList.length = s.size := by rw [ByteArray.toList_eq]; simp
 cases e : (s.toList == [])
 ·rfl
 ·have e' : s.toList = [] := by simpa using e
  rw [e'] at hl
  simp at hl
  omega
theorem run_kind (x y : Int) (z : ByteArray) (w : World) : (Instr.field 91 (.agg #[.int .i64 x, .int .i64 y, .string z]) 0).run Tryz.prog w = .ok (.int .i64 x) w := by kernel_rfl
theorem box6 {w w' : World} {t : TypeId} {x0 x1 x2 x3 x4 x5 : Value} (h : Below (w.heap.size + 1) (w.alloc (.cells #[x0, x1, x2, x3, x4, x5] t)) w') :
  w'.cell? ⟨w.heap.size, 0, none⟩ = some x0 ∧ w'.cell? ⟨w.heap.size, 1, none⟩ = some x1 ∧ w'.cell? ⟨w.heap.size, 2, none⟩ = some x2 ∧ w'.cell? ⟨w.heap.size, 3, none⟩ = some x3 ∧ w'.cell? ⟨w.heap.size, 4, none⟩ = some x4 ∧ w'.cell? ⟨w.heap.size, 5, none⟩ = some x5 := by
 refine ⟨?_, ?_, ?_, ?_, ?_, ?_⟩ <;> (rw [h.cell (by simp)]; simp)
theorem one_below {w w' : World} {a : Obj} (h : Below (w.heap.size + 1) (w.alloc a) w') : Below w.heap.size w w' :=
 ((Below.refl _ _).alloc (Nat.le_refl _) _).trans (h.mono (by omega))
end
section
open Go.RowKit
set_option maxHeartbeats 2000000 in
theorem gstmt1 (s : ByteArray) (ve vf : Value) (es fs : List Nd) (t l : Int) (w : World) (hle : es.length ≤ 2000) (hlf : fs.length ≤ 2000) (he : Nodes w ve es) (hf : Nodes w vf fs) :
  Calls Tryz.prog 82 #[.agg #[.int .i64 1, .string s, ve, vf, .int .i64 t, .int .i64 l]] w fun e w' => e = .returned (.bool (gstmtB ⟨1, s, es, fs, t, l⟩)) ∧ Below w.heap.size w w' := by
 have HE : Hid (Nodes w ve es) := he
 have HF : Hid (Nodes w vf fs) := hf
 obtain ⟨ae, ce, rfl, -, -, -⟩ := he
 obtain ⟨af, cf, rfl, -, -, -⟩ := hf
 have HD : Hid (∀ b : Bool, (decide (es.length ≤ 2000) && b) = b) := fun b => by simp [hle]
 have HDF : Hid (∀ b : Bool, (decide (fs.length ≤ 2000) && b) = b) := fun b => by simp [hlf]
 go_enter Tryz.func82, Tryz.ntmps82
 go_wp2_with (go_at_call 49; refine (in_any _ _ _ _).mono ?_; rintro e w' ⟨rfl, rfl⟩)
 refine (gexpr_any _ es _ (by omega) (HE.out.below ((Below.refl _ _).alloc (Nat.le_refl _) _))).mono ?_
 rintro e w1 ⟨rfl, hb1⟩
 rw [HD.out]
 simp only [World.size_alloc] at hb1
 have hB1 := one_below hb1
 obtain ⟨x0, x1, x2, x3, x4, x5⟩ := box6 hb1
 cases ho : oneB es
 ·go_wp2_with fail
  go_ret
  exact ⟨ret_bool (by simp only [gstmtB, stmtB]; simp [ho]), hB1⟩
 cases hn : nameB s
 ·go_wp2_with (go_at_call 48; refine (name_any _ _).mono ?_; rintro e w' ⟨rfl, rfl⟩; rw [hn])
  go_ret
  exact ⟨ret_bool (by simp only [gstmtB, stmtB]; simp [ho, hn]), hB1⟩
 by_cases hf0 : 0 < fs.length
 ·go_wp2_with (go_at_call 48; refine (name_any _ _).mono ?_; rintro e w' ⟨rfl, rfl⟩; rw [hn])
  go_ret
  refine ⟨ret_bool ?_, hB1⟩
  have : (fs.length == 0) = false := by simp only [beq_eq_false_iff_ne]; omega
  simp only [gstmtB, stmtB, this]; simp [ho, hn]
 have HF0 : Hid ((fs.length == 0) = true) := by show _ = _; simp only [beq_iff_eq]; omega
 by_cases ht : t < 0
 ·go_wp2_with (go_at_call 48; refine (name_any _ _).mono ?_; rintro e w' ⟨rfl, rfl⟩; rw [hn])
  all_goals go_ret
  all_goals refine ⟨ret_bool ?_, hB1⟩
  all_goals (simp only [gstmtB, stmtB, HF0.out]; simp [ho, hn] <;> omega)
 by_cases hl : l < 0
 ·go_wp2_with (go_at_call 48; refine (name_any _ _).mono ?_; rintro e w' ⟨rfl, rfl⟩; rw [hn])
  all_goals go_ret
  all_goals refine ⟨ret_bool ?_, hB1⟩
  all_goals (simp only [gstmtB, stmtB, HF0.out]; simp [ho, hn] <;> omega)
 by_cases ht2 : 0 < t
 ·go_wp2_with (go_at_call 48; refine (name_any _ _).mono ?_; rintro e w' ⟨rfl, rfl⟩; rw [hn])
  all_goals go_ret
  all_goals refine ⟨ret_bool ?_, hB1⟩
  all_goals (simp only [gstmtB, stmtB, HF0.out]; simp [ho, hn] <;> omega)
 by_cases hl2 : 0 < l
 ·go_wp2_with (go_at_call 48; refine (name_any _ _).mono ?_; rintro e w' ⟨rfl, rfl⟩; rw [hn])
  all_goals go_ret
  all_goals refine ⟨ret_bool ?_, hB1⟩
  all_goals (simp only [gstmtB, stmtB, HF0.out]; simp [ho, hn] <;> omega)
 go_wp2_with (go_at_call 48; refine (name_any _ _).mono ?_; rintro e w' ⟨rfl, rfl⟩; rw [hn])
 all_goals go_ret
 all_goals refine ⟨ret_bool ?_, hB1⟩
 all_goals have ht' : 0 ≤ t := by omega
 all_goals have hl' : 0 ≤ l := by omega
 all_goals have e1 : t = 0 := by omega
 all_goals have e2 : l = 0 := by omega
 all_goals (simp only [gstmtB, stmtB, HF0.out]; simp [ho, hn, ht', hl', e1, e2])
set_option maxHeartbeats 2000000 in
theorem gstmt2 (s : ByteArray) (ve vf : Value) (es fs : List Nd) (t l : Int) (w : World) (hle : es.length ≤ 2000) (hlf : fs.length ≤ 2000) (he : Nodes w ve es) (hf : Nodes w vf fs) :
  Calls Tryz.prog 82 #[.agg #[.int .i64 2, .string s, ve, vf, .int .i64 t, .int .i64 l]] w fun e w' => e = .returned (.bool (gstmtB ⟨2, s, es, fs, t, l⟩)) ∧ Below w.heap.size w w' := by
 have HE : Hid (Nodes w ve es) := he
 have HF : Hid (Nodes w vf fs) := hf
 obtain ⟨ae, ce, rfl, -, -, -⟩ := he
 obtain ⟨af, cf, rfl, -, -, -⟩ := hf
 have HD : Hid (∀ b : Bool, (decide (es.length ≤ 2000) && b) = b) := fun b => by simp [hle]
 have HDF : Hid (∀ b : Bool, (decide (fs.length ≤ 2000) && b) = b) := fun b => by simp [hlf]
 go_enter Tryz.func82, Tryz.ntmps82
 go_wp2_with (go_at_call 49; refine (in_any _ _ _ _).mono ?_; rintro e w' ⟨rfl, rfl⟩)
 refine (gexpr_any _ es _ (by omega) (HE.out.below ((Below.refl _ _).alloc (Nat.le_refl _) _))).mono ?_
 rintro e w1 ⟨rfl, hb1⟩
 rw [HD.out]
 simp only [World.size_alloc] at hb1
 have hB1 := one_below hb1
 obtain ⟨x0, x1, x2, x3, x4, x5⟩ := box6 hb1
 cases ho : oneB es
 ·go_wp2_with fail
  go_ret
  exact ⟨ret_bool (by simp only [gstmtB, stmtB]; simp [ho]), hB1⟩
 cases hn : nameB s
 ·go_wp2_with (go_at_call 48; refine (name_any _ _).mono ?_; rintro e w' ⟨rfl, rfl⟩; rw [hn])
  go_ret
  exact ⟨ret_bool (by simp only [gstmtB, stmtB]; simp [ho, hn]), hB1⟩
 by_cases hf0 : 0 < fs.length
 ·go_wp2_with (go_at_call 48; refine (name_any _ _).mono ?_; rintro e w' ⟨rfl, rfl⟩; rw [hn])
  go_ret
  refine ⟨ret_bool ?_, hB1⟩
  have : (fs.length == 0) = false := by simp only [beq_eq_false_iff_ne]; omega
  simp only [gstmtB, stmtB, this]; simp [ho, hn]
 have HF0 : Hid ((fs.length == 0) = true) := by show _ = _; simp only [beq_iff_eq]; omega
 by_cases ht : t < 0
 ·go_wp2_with (go_at_call 48; refine (name_any _ _).mono ?_; rintro e w' ⟨rfl, rfl⟩; rw [hn])
  all_goals go_ret
  all_goals refine ⟨ret_bool ?_, hB1⟩
  all_goals (simp only [gstmtB, stmtB, HF0.out]; simp [ho, hn] <;> omega)
 by_cases hl : l < 0
 ·go_wp2_with (go_at_call 48; refine (name_any _ _).mono ?_; rintro e w' ⟨rfl, rfl⟩; rw [hn])
  all_goals go_ret
  all_goals refine ⟨ret_bool ?_, hB1⟩
  all_goals (simp only [gstmtB, stmtB, HF0.out]; simp [ho, hn] <;> omega)
 by_cases ht2 : 0 < t
 ·go_wp2_with (go_at_call 48; refine (name_any _ _).mono ?_; rintro e w' ⟨rfl, rfl⟩; rw [hn])
  all_goals go_ret
  all_goals refine ⟨ret_bool ?_, hB1⟩
  all_goals (simp only [gstmtB, stmtB, HF0.out]; simp [ho, hn] <;> omega)
 by_cases hl2 : 0 < l
 ·go_wp2_with (go_at_call 48; refine (name_any _ _).mono ?_; rintro e w' ⟨rfl, rfl⟩; rw [hn])
  all_goals go_ret
  all_goals refine ⟨ret_bool ?_, hB1⟩
  all_goals (simp only [gstmtB, stmtB, HF0.out]; simp [ho, hn] <;> omega)
 go_wp2_with (go_at_call 48; refine (name_any _ _).mono ?_; rintro e w' ⟨rfl, rfl⟩; rw [hn])
 all_goals go_ret
 all_goals refine ⟨ret_bool ?_, hB1⟩
 all_goals have ht' : 0 ≤ t := by omega
 all_goals have hl' : 0 ≤ l := by omega
 all_goals have e1 : t = 0 := by omega
 all_goals have e2 : l = 0 := by omega
 all_goals (simp only [gstmtB, stmtB, HF0.out]; simp [ho, hn, ht', hl', e1, e2])
set_option maxHeartbeats 2000000 in
theorem gstmt3 (s : ByteArray) (ve vf : Value) (es fs : List Nd) (t l : Int) (w : World) (hle : es.length ≤ 2000) (hlf : fs.length ≤ 2000) (he : Nodes w ve es) (hf : Nodes w vf fs) :
  Calls Tryz.prog 82 #[.agg #[.int .i64 3, .string s, ve, vf, .int .i64 t, .int .i64 l]] w fun e w' => e = .returned (.bool (gstmtB ⟨3, s, es, fs, t, l⟩)) ∧ Below w.heap.size w w' := by
 have HE : Hid (Nodes w ve es) := he
 have HF : Hid (Nodes w vf fs) := hf
 obtain ⟨ae, ce, rfl, -, -, -⟩ := he
 obtain ⟨af, cf, rfl, -, -, -⟩ := hf
 have HD : Hid (∀ b : Bool, (decide (es.length ≤ 2000) && b) = b) := fun b => by simp [hle]
 have HDF : Hid (∀ b : Bool, (decide (fs.length ≤ 2000) && b) = b) := fun b => by simp [hlf]
 go_enter Tryz.func82, Tryz.ntmps82
 go_wp2_with (go_at_call 49; refine (in_any _ _ _ _).mono ?_; rintro e w' ⟨rfl, rfl⟩)
 refine (gexpr_any _ es _ (by omega) (HE.out.below ((Below.refl _ _).alloc (Nat.le_refl _) _))).mono ?_
 rintro e w1 ⟨rfl, hb1⟩
 rw [HD.out]
 simp only [World.size_alloc] at hb1
 have hB1 := one_below hb1
 obtain ⟨x0, x1, x2, x3, x4, x5⟩ := box6 hb1
 cases ho : oneB es
 ·go_wp2_with fail
  go_ret
  exact ⟨ret_bool (by simp only [gstmtB, stmtB]; simp [ho]), hB1⟩
 cases hn : nameB s
 ·go_wp2_with (go_at_call 48; refine (name_any _ _).mono ?_; rintro e w' ⟨rfl, rfl⟩; rw [hn])
  go_ret
  exact ⟨ret_bool (by simp only [gstmtB, stmtB]; simp [ho, hn]), hB1⟩
 by_cases hf0 : 0 < fs.length
 case neg =>
  go_wp2_with (go_at_call 48; refine (name_any _ _).mono ?_; rintro e w' ⟨rfl, rfl⟩; rw [hn])
  go_ret
  refine ⟨ret_bool ?_, hB1⟩
  have : fs = [] := List.eq_nil_of_length_eq_zero (by omega)
  subst this
  have hoe : oneB [] = false := by simp [oneB, wholeTo]
  simp only [gstmtB, stmtB]; simp [ho, hn, hoe]
 go_wp2_with (go_at_call 48; refine (name_any _ _).mono ?_; rintro e w' ⟨rfl, rfl⟩; rw [hn])
 refine (gexpr_any _ fs _ (by omega) (HF.out.below hB1)).mono ?_
 rintro e w2 ⟨rfl, hb2⟩
 rw [HDF.out]
 have hb2' := hb1.trans (hb2.mono (by have := hb1.size; simp at this; omega))
 have hB2 := one_below hb2'
 clear x0 x1 x2 x3 x4 x5
 obtain ⟨x0, x1, x2, x3, x4, x5⟩ := box6 hb2'
 cases hof : oneB fs
 ·go_wp2_with fail
  go_ret
  exact ⟨ret_bool (by simp only [gstmtB, stmtB]; simp [ho, hn, hof]), hB2⟩
 by_cases ht : t < 0
 ·go_wp2_with fail
  all_goals go_ret
  all_goals refine ⟨ret_bool ?_, hB2⟩
  all_goals (simp only [gstmtB, stmtB]; simp [ho, hn, hof] <;> omega)
 by_cases hl : l < 0
 ·go_wp2_with fail
  all_goals go_ret
  all_goals refine ⟨ret_bool ?_, hB2⟩
  all_goals (simp only [gstmtB, stmtB]; simp [ho, hn, hof] <;> omega)
 by_cases ht2 : 0 < t
 ·go_wp2_with fail
  all_goals go_ret
  all_goals refine ⟨ret_bool ?_, hB2⟩
  all_goals (simp only [gstmtB, stmtB]; simp [ho, hn, hof] <;> omega)
 by_cases hl2 : 0 < l
 ·go_wp2_with fail
  all_goals go_ret
  all_goals refine ⟨ret_bool ?_, hB2⟩
  all_goals (simp only [gstmtB, stmtB]; simp [ho, hn, hof] <;> omega)
 go_wp2_with fail
 all_goals go_ret
 all_goals refine ⟨ret_bool ?_, hB2⟩
 all_goals have ht' : 0 ≤ t := by omega
 all_goals have hl' : 0 ≤ l := by omega
 all_goals have e1 : t = 0 := by omega
 all_goals have e2 : l = 0 := by omega
 all_goals (simp only [gstmtB, stmtB]; simp [ho, hn, hof, ht', hl', e1, e2])
end
end Go.Proofs.YtjhmgjimppflhaaGreatDoor
namespace Go.Proofs.YtjhmgjimppflhaaGreatDoor
set_option linter.unusedVariables false
set_option linter.unusedSimpArgs false
set_option maxRecDepth 100000
set_option maxHeartbeats 16000000
section
open Go.RowKit
set_option maxHeartbeats 2000000 in
theorem gstmt4 (s : ByteArray) (ve vf : Value) (es fs : List Nd) (t l : Int) (w : World) (hle : es.length ≤ 2000) (hlf : fs.length ≤ 2000) (he : Nodes w ve es) (hf : Nodes w vf fs) :
  Calls Tryz.prog 82 #[.agg #[.int .i64 4, .string s, ve, vf, .int .i64 t, .int .i64 l]] w fun e w' => e = .returned (.bool (gstmtB ⟨4, s, es, fs, t, l⟩)) ∧ Below w.heap.size w w' := by
 have HE : Hid (Nodes w ve es) := he
 have HF : Hid (Nodes w vf fs) := hf
 obtain ⟨ae, ce, rfl, -, -, -⟩ := he
 obtain ⟨af, cf, rfl, -, -, -⟩ := hf
 have HD : Hid (∀ b : Bool, (decide (es.length ≤ 2000) && b) = b) := fun b => by simp [hle]
 have HDF : Hid (∀ b : Bool, (decide (fs.length ≤ 2000) && b) = b) := fun b => by simp [hlf]
 go_enter Tryz.func82, Tryz.ntmps82
 go_wp2_with (go_at_call 49; refine (in_any _ _ _ _).mono ?_; rintro e w' ⟨rfl, rfl⟩)
 refine (gexpr_any _ es _ (by omega) (HE.out.below ((Below.refl _ _).alloc (Nat.le_refl _) _))).mono ?_
 rintro e w1 ⟨rfl, hb1⟩
 rw [HD.out]
 simp only [World.size_alloc] at hb1
 have hB1 := one_below hb1
 obtain ⟨x0, x1, x2, x3, x4, x5⟩ := box6 hb1
 cases ho : oneB es
 ·go_wp2_with fail
  go_ret
  exact ⟨ret_bool (by simp only [gstmtB, stmtB]; simp [ho]), hB1⟩
 cases hn : nameB s
 case true =>
  go_wp2_with (go_at_call 48; refine (name_any _ _).mono ?_; rintro e w' ⟨rfl, rfl⟩; rw [hn])
  go_ret
  exact ⟨ret_bool (by simp only [gstmtB, stmtB]; simp [ho, nameB_empty hn, -List.beq_nil_eq]), hB1⟩
 cases hs : (s.toList == [])
 ·have hs1 : (s.toList != []) = true := by rw [bne, hs]; rfl
  go_wp2_with (go_at_call 48; refine (name_any _ _).mono ?_; rintro e w' ⟨rfl, rfl⟩; rw [hn])
  go_ret
  exact ⟨ret_bool (by simp only [gstmtB, stmtB]; simp [ho, hs, -List.beq_nil_eq]), hB1⟩
 have hs1 : (s.toList != []) = false := by rw [bne, hs]; rfl
 by_cases hf0 : 0 < fs.length
 ·go_wp2_with (go_at_call 48; refine (name_any _ _).mono ?_; rintro e w' ⟨rfl, rfl⟩; rw [hn])
  go_ret
  refine ⟨ret_bool ?_, hB1⟩
  have : (fs.length == 0) = false := by simp only [beq_eq_false_iff_ne]; omega
  simp only [gstmtB, stmtB, this]; simp [ho, hs, -List.beq_nil_eq]
 have HF0 : Hid ((fs.length == 0) = true) := by show _ = _; simp only [beq_iff_eq]; omega
 by_cases ht : t < 0
 ·go_wp2_with (go_at_call 48; refine (name_any _ _).mono ?_; rintro e w' ⟨rfl, rfl⟩; rw [hn])
  all_goals go_ret
  all_goals refine ⟨ret_bool ?_, hB1⟩
  all_goals (simp only [gstmtB, stmtB, HF0.out]; simp [ho, hs, -List.beq_nil_eq] <;> omega)
 by_cases hl : l < 0
 ·go_wp2_with (go_at_call 48; refine (name_any _ _).mono ?_; rintro e w' ⟨rfl, rfl⟩; rw [hn])
  all_goals go_ret
  all_goals refine ⟨ret_bool ?_, hB1⟩
  all_goals (simp only [gstmtB, stmtB, HF0.out]; simp [ho, hs, -List.beq_nil_eq] <;> omega)
 go_wp2_with (go_at_call 48; refine (name_any _ _).mono ?_; rintro e w' ⟨rfl, rfl⟩; rw [hn])
 all_goals go_ret
 all_goals refine ⟨ret_bool ?_, hB1⟩
 all_goals have ht' : 0 ≤ t := by omega
 all_goals have hl' : 0 ≤ l := by omega
 all_goals (simp only [gstmtB, stmtB, HF0.out]; simp [ho, hs, -List.beq_nil_eq, ht', hl'])
set_option maxHeartbeats 2000000 in
theorem gstmt5 (s : ByteArray) (ve vf : Value) (es fs : List Nd) (t l : Int) (w : World) (hle : es.length ≤ 2000) (hlf : fs.length ≤ 2000) (he : Nodes w ve es) (hf : Nodes w vf fs) :
  Calls Tryz.prog 82 #[.agg #[.int .i64 5, .string s, ve, vf, .int .i64 t, .int .i64 l]] w fun e w' => e = .returned (.bool (gstmtB ⟨5, s, es, fs, t, l⟩)) ∧ Below w.heap.size w w' := by
 have HE : Hid (Nodes w ve es) := he
 have HF : Hid (Nodes w vf fs) := hf
 obtain ⟨ae, ce, rfl, -, -, -⟩ := he
 obtain ⟨af, cf, rfl, -, -, -⟩ := hf
 have HD : Hid (∀ b : Bool, (decide (es.length ≤ 2000) && b) = b) := fun b => by simp [hle]
 have HDF : Hid (∀ b : Bool, (decide (fs.length ≤ 2000) && b) = b) := fun b => by simp [hlf]
 go_enter Tryz.func82, Tryz.ntmps82
 go_wp2_with (go_at_call 49; refine (in_any _ _ _ _).mono ?_; rintro e w' ⟨rfl, rfl⟩)
 refine (gexpr_any _ es _ (by omega) (HE.out.below ((Below.refl _ _).alloc (Nat.le_refl _) _))).mono ?_
 rintro e w1 ⟨rfl, hb1⟩
 rw [HD.out]
 simp only [World.size_alloc] at hb1
 have hB1 := one_below hb1
 obtain ⟨x0, x1, x2, x3, x4, x5⟩ := box6 hb1
 cases ho : oneB es
 ·go_wp2_with fail
  go_ret
  exact ⟨ret_bool (by simp only [gstmtB, stmtB]; simp [ho]), hB1⟩
 cases hn : nameB s
 case true =>
  go_wp2_with (go_at_call 48; refine (name_any _ _).mono ?_; rintro e w' ⟨rfl, rfl⟩; rw [hn])
  go_ret
  exact ⟨ret_bool (by simp only [gstmtB, stmtB]; simp [ho, nameB_empty hn, -List.beq_nil_eq]), hB1⟩
 cases hs : (s.toList == [])
 ·have hs1 : (s.toList != []) = true := by rw [bne, hs]; rfl
  go_wp2_with (go_at_call 48; refine (name_any _ _).mono ?_; rintro e w' ⟨rfl, rfl⟩; rw [hn])
  go_ret
  exact ⟨ret_bool (by simp only [gstmtB, stmtB]; simp [ho, hs, -List.beq_nil_eq]), hB1⟩
 have hs1 : (s.toList != []) = false := by rw [bne, hs]; rfl
 by_cases hf0 : 0 < fs.length
 ·go_wp2_with (go_at_call 48; refine (name_any _ _).mono ?_; rintro e w' ⟨rfl, rfl⟩; rw [hn])
  go_ret
  refine ⟨ret_bool ?_, hB1⟩
  have : (fs.length == 0) = false := by simp only [beq_eq_false_iff_ne]; omega
  simp only [gstmtB, stmtB, this]; simp [ho, hs, -List.beq_nil_eq]
 have HF0 : Hid ((fs.length == 0) = true) := by show _ = _; simp only [beq_iff_eq]; omega
 by_cases ht : t < 0
 ·go_wp2_with (go_at_call 48; refine (name_any _ _).mono ?_; rintro e w' ⟨rfl, rfl⟩; rw [hn])
  all_goals go_ret
  all_goals refine ⟨ret_bool ?_, hB1⟩
  all_goals (simp only [gstmtB, stmtB, HF0.out]; simp [ho, hs, -List.beq_nil_eq] <;> omega)
 by_cases hl : l < 0
 ·go_wp2_with (go_at_call 48; refine (name_any _ _).mono ?_; rintro e w' ⟨rfl, rfl⟩; rw [hn])
  all_goals go_ret
  all_goals refine ⟨ret_bool ?_, hB1⟩
  all_goals (simp only [gstmtB, stmtB, HF0.out]; simp [ho, hs, -List.beq_nil_eq] <;> omega)
 by_cases hl2 : 0 < l
 ·go_wp2_with (go_at_call 48; refine (name_any _ _).mono ?_; rintro e w' ⟨rfl, rfl⟩; rw [hn])
  all_goals go_ret
  all_goals refine ⟨ret_bool ?_, hB1⟩
  all_goals (simp only [gstmtB, stmtB, HF0.out]; simp [ho, hs, -List.beq_nil_eq] <;> omega)
 go_wp2_with (go_at_call 48; refine (name_any _ _).mono ?_; rintro e w' ⟨rfl, rfl⟩; rw [hn])
 all_goals go_ret
 all_goals refine ⟨ret_bool ?_, hB1⟩
 all_goals have ht' : 0 ≤ t := by omega
 all_goals have hl' : 0 ≤ l := by omega
 all_goals have e2 : l = 0 := by omega
 all_goals (simp only [gstmtB, stmtB, HF0.out]; simp [ho, hs, -List.beq_nil_eq, ht', hl', e2])
set_option maxHeartbeats 2000000 in
theorem gstmt6 (s : ByteArray) (ve vf : Value) (es fs : List Nd) (t l : Int) (w : World) (hle : es.length ≤ 2000) (hlf : fs.length ≤ 2000) (he : Nodes w ve es) (hf : Nodes w vf fs) :
  Calls Tryz.prog 82 #[.agg #[.int .i64 6, .string s, ve, vf, .int .i64 t, .int .i64 l]] w fun e w' => e = .returned (.bool (gstmtB ⟨6, s, es, fs, t, l⟩)) ∧ Below w.heap.size w w' := by
 have HE : Hid (Nodes w ve es) := he
 have HF : Hid (Nodes w vf fs) := hf
 obtain ⟨ae, ce, rfl, -, -, -⟩ := he
 obtain ⟨af, cf, rfl, -, -, -⟩ := hf
 have HD : Hid (∀ b : Bool, (decide (es.length ≤ 2000) && b) = b) := fun b => by simp [hle]
 have HDF : Hid (∀ b : Bool, (decide (fs.length ≤ 2000) && b) = b) := fun b => by simp [hlf]
 go_enter Tryz.func82, Tryz.ntmps82
 go_wp2_with (go_at_call 49; refine (in_any _ _ _ _).mono ?_; rintro e w' ⟨rfl, rfl⟩)
 refine (gexpr_any _ es _ (by omega) (HE.out.below ((Below.refl _ _).alloc (Nat.le_refl _) _))).mono ?_
 rintro e w1 ⟨rfl, hb1⟩
 rw [HD.out]
 simp only [World.size_alloc] at hb1
 have hB1 := one_below hb1
 obtain ⟨x0, x1, x2, x3, x4, x5⟩ := box6 hb1
 cases ho : oneB es
 ·go_wp2_with fail
  go_ret
  exact ⟨ret_bool (by simp only [gstmtB, stmtB]; simp [ho]), hB1⟩
 cases hn : nameB s
 case true =>
  go_wp2_with (go_at_call 48; refine (name_any _ _).mono ?_; rintro e w' ⟨rfl, rfl⟩; rw [hn])
  go_ret
  exact ⟨ret_bool (by simp only [gstmtB, stmtB]; simp [ho, nameB_empty hn, -List.beq_nil_eq]), hB1⟩
 cases hs : (s.toList == [])
 ·have hs1 : (s.toList != []) = true := by rw [bne, hs]; rfl
  go_wp2_with (go_at_call 48; refine (name_any _ _).mono ?_; rintro e w' ⟨rfl, rfl⟩; rw [hn])
  go_ret
  exact ⟨ret_bool (by simp only [gstmtB, stmtB]; simp [ho, hs, -List.beq_nil_eq]), hB1⟩
 have hs1 : (s.toList != []) = false := by rw [bne, hs]; rfl
 by_cases hf0 : 0 < fs.length
 ·go_wp2_with (go_at_call 48; refine (name_any _ _).mono ?_; rintro e w' ⟨rfl, rfl⟩; rw [hn])
  go_ret
  refine ⟨ret_bool ?_, hB1⟩
  have : (fs.length == 0) = false := by simp only [beq_eq_false_iff_ne]; omega
  simp only [gstmtB, stmtB, this]; simp [ho, hs, -List.beq_nil_eq]
 have HF0 : Hid ((fs.length == 0) = true) := by show _ = _; simp only [beq_iff_eq]; omega
 by_cases ht : t < 0
 ·go_wp2_with (go_at_call 48; refine (name_any _ _).mono ?_; rintro e w' ⟨rfl, rfl⟩; rw [hn])
  all_goals go_ret
  all_goals refine ⟨ret_bool ?_, hB1⟩
  all_goals (simp only [gstmtB, stmtB, HF0.out]; simp [ho, hs, -List.beq_nil_eq] <;> omega)
 by_cases hl : l < 0
 ·go_wp2_with (go_at_call 48; refine (name_any _ _).mono ?_; rintro e w' ⟨rfl, rfl⟩; rw [hn])
  all_goals go_ret
  all_goals refine ⟨ret_bool ?_, hB1⟩
  all_goals (simp only [gstmtB, stmtB, HF0.out]; simp [ho, hs, -List.beq_nil_eq] <;> omega)
 by_cases ht2 : 0 < t
 ·go_wp2_with (go_at_call 48; refine (name_any _ _).mono ?_; rintro e w' ⟨rfl, rfl⟩; rw [hn])
  all_goals go_ret
  all_goals refine ⟨ret_bool ?_, hB1⟩
  all_goals (simp only [gstmtB, stmtB, HF0.out]; simp [ho, hs, -List.beq_nil_eq] <;> omega)
 by_cases hl2 : 0 < l
 ·go_wp2_with (go_at_call 48; refine (name_any _ _).mono ?_; rintro e w' ⟨rfl, rfl⟩; rw [hn])
  all_goals go_ret
  all_goals refine ⟨ret_bool ?_, hB1⟩
  all_goals (simp only [gstmtB, stmtB, HF0.out]; simp [ho, hs, -List.beq_nil_eq] <;> omega)
 go_wp2_with (go_at_call 48; refine (name_any _ _).mono ?_; rintro e w' ⟨rfl, rfl⟩; rw [hn])
 all_goals go_ret
 all_goals refine ⟨ret_bool ?_, hB1⟩
 all_goals have ht' : 0 ≤ t := by omega
 all_goals have hl' : 0 ≤ l := by omega
 all_goals have e1 : t = 0 := by omega
 all_goals have e2 : l = 0 := by omega
 all_goals (simp only [gstmtB, stmtB, HF0.out]; simp [ho, hs, -List.beq_nil_eq, ht', hl', e1, e2])
end
section
open Go.RowKit
set_option maxHeartbeats 2000000 in
theorem gstmt7 (s : ByteArray) (ve vf : Value) (es fs : List Nd) (t l : Int) (w : World) (hle : es.length ≤ 2000) (hlf : fs.length ≤ 2000) (he : Nodes w ve es) (hf : Nodes w vf fs) :
  Calls Tryz.prog 82 #[.agg #[.int .i64 7, .string s, ve, vf, .int .i64 t, .int .i64 l]] w fun e w' => e = .returned (.bool (gstmtB ⟨7, s, es, fs, t, l⟩)) ∧ Below w.heap.size w w' := by
 have HE : Hid (Nodes w ve es) := he
 have HF : Hid (Nodes w vf fs) := hf
 obtain ⟨ae, ce, rfl, -, -, -⟩ := he
 obtain ⟨af, cf, rfl, -, -, -⟩ := hf
 have HD : Hid (∀ b : Bool, (decide (es.length ≤ 2000) && b) = b) := fun b => by simp [hle]
 have HDF : Hid (∀ b : Bool, (decide (fs.length ≤ 2000) && b) = b) := fun b => by simp [hlf]
 go_enter Tryz.func82, Tryz.ntmps82
 go_wp2_with (go_at_call 49; refine (in_any _ _ _ _).mono ?_; rintro e w' ⟨rfl, rfl⟩)
 refine (gexpr_any _ es _ (by omega) (HE.out.below ((Below.refl _ _).alloc (Nat.le_refl _) _))).mono ?_
 rintro e w1 ⟨rfl, hb1⟩
 rw [HD.out]
 simp only [World.size_alloc] at hb1
 have hB1 := one_below hb1
 obtain ⟨x0, x1, x2, x3, x4, x5⟩ := box6 hb1
 cases ho : oneB es
 ·go_wp2_with fail
  go_ret
  exact ⟨ret_bool (by simp only [gstmtB, stmtB]; simp [ho]), hB1⟩
 cases hn : nameB s
 case true =>
  go_wp2_with (go_at_call 48; refine (name_any _ _).mono ?_; rintro e w' ⟨rfl, rfl⟩; rw [hn])
  go_ret
  exact ⟨ret_bool (by simp only [gstmtB, stmtB]; simp [ho, nameB_empty hn, -List.beq_nil_eq]), hB1⟩
 cases hs : (s.toList == [])
 ·have hs1 : (s.toList != []) = true := by rw [bne, hs]; rfl
  go_wp2_with (go_at_call 48; refine (name_any _ _).mono ?_; rintro e w' ⟨rfl, rfl⟩; rw [hn])
  go_ret
  exact ⟨ret_bool (by simp only [gstmtB, stmtB]; simp [ho, hs, -List.beq_nil_eq]), hB1⟩
 have hs1 : (s.toList != []) = false := by rw [bne, hs]; rfl
 by_cases hf0 : 0 < fs.length
 ·go_wp2_with (go_at_call 48; refine (name_any _ _).mono ?_; rintro e w' ⟨rfl, rfl⟩; rw [hn])
  go_ret
  refine ⟨ret_bool ?_, hB1⟩
  have : (fs.length == 0) = false := by simp only [beq_eq_false_iff_ne]; omega
  simp only [gstmtB, stmtB, this]; simp [ho, hs, -List.beq_nil_eq]
 have HF0 : Hid ((fs.length == 0) = true) := by show _ = _; simp only [beq_iff_eq]; omega
 by_cases ht : t < 0
 ·go_wp2_with (go_at_call 48; refine (name_any _ _).mono ?_; rintro e w' ⟨rfl, rfl⟩; rw [hn])
  all_goals go_ret
  all_goals refine ⟨ret_bool ?_, hB1⟩
  all_goals (simp only [gstmtB, stmtB, HF0.out]; simp [ho, hs, -List.beq_nil_eq] <;> omega)
 by_cases hl : l < 0
 ·go_wp2_with (go_at_call 48; refine (name_any _ _).mono ?_; rintro e w' ⟨rfl, rfl⟩; rw [hn])
  all_goals go_ret
  all_goals refine ⟨ret_bool ?_, hB1⟩
  all_goals (simp only [gstmtB, stmtB, HF0.out]; simp [ho, hs, -List.beq_nil_eq] <;> omega)
 by_cases ht2 : 0 < t
 ·go_wp2_with (go_at_call 48; refine (name_any _ _).mono ?_; rintro e w' ⟨rfl, rfl⟩; rw [hn])
  all_goals go_ret
  all_goals refine ⟨ret_bool ?_, hB1⟩
  all_goals (simp only [gstmtB, stmtB, HF0.out]; simp [ho, hs, -List.beq_nil_eq] <;> omega)
 by_cases hl2 : 0 < l
 ·go_wp2_with (go_at_call 48; refine (name_any _ _).mono ?_; rintro e w' ⟨rfl, rfl⟩; rw [hn])
  all_goals go_ret
  all_goals refine ⟨ret_bool ?_, hB1⟩
  all_goals (simp only [gstmtB, stmtB, HF0.out]; simp [ho, hs, -List.beq_nil_eq] <;> omega)
 go_wp2_with (go_at_call 48; refine (name_any _ _).mono ?_; rintro e w' ⟨rfl, rfl⟩; rw [hn])
 all_goals go_ret
 all_goals refine ⟨ret_bool ?_, hB1⟩
 all_goals have ht' : 0 ≤ t := by omega
 all_goals have hl' : 0 ≤ l := by omega
 all_goals have e1 : t = 0 := by omega
 all_goals have e2 : l = 0 := by omega
 all_goals (simp only [gstmtB, stmtB, HF0.out]; simp [ho, hs, -List.beq_nil_eq, ht', hl', e1, e2])
set_option maxHeartbeats 2000000 in
theorem gstmt8 (s : ByteArray) (ve vf : Value) (es fs : List Nd) (t l : Int) (w : World) (hle : es.length ≤ 2000) (hlf : fs.length ≤ 2000) (he : Nodes w ve es) (hf : Nodes w vf fs) :
  Calls Tryz.prog 82 #[.agg #[.int .i64 8, .string s, ve, vf, .int .i64 t, .int .i64 l]] w fun e w' => e = .returned (.bool (gstmtB ⟨8, s, es, fs, t, l⟩)) ∧ Below w.heap.size w w' := by
 have HE : Hid (Nodes w ve es) := he
 have HF : Hid (Nodes w vf fs) := hf
 obtain ⟨ae, ce, rfl, -, -, -⟩ := he
 obtain ⟨af, cf, rfl, -, -, -⟩ := hf
 have HD : Hid (∀ b : Bool, (decide (es.length ≤ 2000) && b) = b) := fun b => by simp [hle]
 have HDF : Hid (∀ b : Bool, (decide (fs.length ≤ 2000) && b) = b) := fun b => by simp [hlf]
 go_enter Tryz.func82, Tryz.ntmps82
 go_wp2_with (go_at_call 49; refine (in_any _ _ _ _).mono ?_; rintro e w' ⟨rfl, rfl⟩)
 refine (gexpr_any _ es _ (by omega) (HE.out.below ((Below.refl _ _).alloc (Nat.le_refl _) _))).mono ?_
 rintro e w1 ⟨rfl, hb1⟩
 rw [HD.out]
 simp only [World.size_alloc] at hb1
 have hB1 := one_below hb1
 obtain ⟨x0, x1, x2, x3, x4, x5⟩ := box6 hb1
 cases ho : oneB es
 ·go_wp2_with fail
  go_ret
  exact ⟨ret_bool (by simp only [gstmtB, stmtB]; simp [ho]), hB1⟩
 cases hn : nameB s
 case true =>
  go_wp2_with (go_at_call 48; refine (name_any _ _).mono ?_; rintro e w' ⟨rfl, rfl⟩; rw [hn])
  go_ret
  exact ⟨ret_bool (by simp only [gstmtB, stmtB]; simp [ho, nameB_empty hn, -List.beq_nil_eq]), hB1⟩
 cases hs : (s.toList == [])
 ·have hs1 : (s.toList != []) = true := by rw [bne, hs]; rfl
  go_wp2_with (go_at_call 48; refine (name_any _ _).mono ?_; rintro e w' ⟨rfl, rfl⟩; rw [hn])
  go_ret
  exact ⟨ret_bool (by simp only [gstmtB, stmtB]; simp [ho, hs, -List.beq_nil_eq]), hB1⟩
 have hs1 : (s.toList != []) = false := by rw [bne, hs]; rfl
 by_cases hf0 : 0 < fs.length
 ·go_wp2_with (go_at_call 48; refine (name_any _ _).mono ?_; rintro e w' ⟨rfl, rfl⟩; rw [hn])
  go_ret
  refine ⟨ret_bool ?_, hB1⟩
  have : (fs.length == 0) = false := by simp only [beq_eq_false_iff_ne]; omega
  simp only [gstmtB, stmtB, this]; simp [ho, hs, -List.beq_nil_eq]
 have HF0 : Hid ((fs.length == 0) = true) := by show _ = _; simp only [beq_iff_eq]; omega
 by_cases ht : t < 0
 ·go_wp2_with (go_at_call 48; refine (name_any _ _).mono ?_; rintro e w' ⟨rfl, rfl⟩; rw [hn])
  all_goals go_ret
  all_goals refine ⟨ret_bool ?_, hB1⟩
  all_goals (simp only [gstmtB, stmtB, HF0.out]; simp [ho, hs, -List.beq_nil_eq] <;> omega)
 by_cases hl : l < 0
 ·go_wp2_with (go_at_call 48; refine (name_any _ _).mono ?_; rintro e w' ⟨rfl, rfl⟩; rw [hn])
  all_goals go_ret
  all_goals refine ⟨ret_bool ?_, hB1⟩
  all_goals (simp only [gstmtB, stmtB, HF0.out]; simp [ho, hs, -List.beq_nil_eq] <;> omega)
 by_cases ht2 : 0 < t
 ·go_wp2_with (go_at_call 48; refine (name_any _ _).mono ?_; rintro e w' ⟨rfl, rfl⟩; rw [hn])
  all_goals go_ret
  all_goals refine ⟨ret_bool ?_, hB1⟩
  all_goals (simp only [gstmtB, stmtB, HF0.out]; simp [ho, hs, -List.beq_nil_eq] <;> omega)
 by_cases hl2 : 0 < l
 ·go_wp2_with (go_at_call 48; refine (name_any _ _).mono ?_; rintro e w' ⟨rfl, rfl⟩; rw [hn])
  all_goals go_ret
  all_goals refine ⟨ret_bool ?_, hB1⟩
  all_goals (simp only [gstmtB, stmtB, HF0.out]; simp [ho, hs, -List.beq_nil_eq] <;> omega)
 have hpos := oneB_pos ho
 have HL : Hid (lastKind es = (es[es.length - 1]'(by omega)).kind) := by
  show lastKind es = _
  simp only [lastKind]
  rw [List.getElem?_eq_getElem (by omega)]
 go_wp2_with (go_at_call 48; refine (name_any _ _).mono ?_; rintro e w' ⟨rfl, rfl⟩; rw [hn])
 refine (root_any _ es _ hpos (by omega) (HE.out.below hB1)).mono ?_
 rintro e w2 ⟨rfl, hb2⟩
 have hB2 := hB1.trans (hb2.mono hB1.size)
 generalize es[es.length - 1] = n at HL ⊢
 have hfd := run_kind n.kind n.val n.name
 have HH : Hid (0 ≤ t ∧ t ≤ 0 ∧ 0 ≤ l ∧ l ≤ 0) := ⟨by omega, by omega, by omega, by omega⟩
 clear x0 x1 x2 x3 x4 x5 hpos hle hlf ht hl ht2 hl2
 go_wp2_with fail
 go_ret
 refine ⟨ret_bool ?_, hB2⟩
 have hh := HH.out
 have e1 : t = 0 := by omega
 have e2 : l = 0 := by omega
 simp only [gstmtB, stmtB, HF0.out]; simp [ho, hs, -List.beq_nil_eq, HL.out, e1, e2]
end
end Go.Proofs.YtjhmgjimppflhaaGreatDoor
