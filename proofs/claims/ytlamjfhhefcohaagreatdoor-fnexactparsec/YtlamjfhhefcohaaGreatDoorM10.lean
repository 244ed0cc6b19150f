import Derived.Test.YtlamjfhhefcohaaGreatDoorM09
namespace Go.Proofs.YtlamjfhhefcohaaGreatDoor
set_option linter.unusedVariables false
set_option linter.unusedSimpArgs false
set_option maxRecDepth 100000
set_option maxHeartbeats 16000000
section
open Go.RowKit
def nodeTab : List Value := [.bool false, .int .i64 0, .int .i64 0, .int .i64 0, .bool false, .int .i64 (-2147483648), .int .i64 2147483647, .int .i64 0, .bool true, .int .i64 0, .int .i64 0, .int .i64 0, .bool true, .int .i64 0, .int .i64 0, .int .i64 1, .bool true, .int .i64 0, .int .i64 6, .int .i64 0, .bool false, .int .i64 0, .int .i64 0, .int .i64 0, .bool false, .int .i64 0, .int .i64 2, .int .i64 1, .bool false, .int .i64 0, .int .i64 15, .int .i64 2, .bool false, .int .i64 0, .int .i64 0, .int .i64 2, .bool false, .int .i64 0, .int .i64 0, .int .i64 2]
def stmtTab : List Bool := [false, false, false, false, false, true, false, false, false, false, true, false, false, false, false, true, true, false, false, false, false, false, true, true, false, false, false, true, false, false, false, false, false, false, false, false, false, false, false, false, false, false, false, false, true]
structure Tab (w : World) : Prop where
 node : ∀ j, j < 40 → w.cell? ⟨2, j, none⟩ = some (nodeTab.getD j .nilFunc)
 stmt : True → ∀ j, j < 45 → w.cell? ⟨0, j, none⟩ = some (.bool (stmtTab.getD j false))
 size : 2 < w.heap.size ∧ 0 < w.heap.size
theorem Tab.below {w w' : World} {B : Nat} (h : Tab w) (hB : 2 < B ∧ 0 < B) (hb : Below B w w') : Tab w' := by
 refine ⟨fun j hj => ?_, fun ht j hj => ?_, Nat.lt_of_lt_of_le h.size.1 hb.size, Nat.lt_of_lt_of_le h.size.2 hb.size⟩
 ·rw [hb.cell hB.1]; exact h.node j hj
 ·rw [hb.cell hB.2]; exact h.stmt ht j hj
set_option maxHeartbeats 400000 in
theorem asked_yes (s : ByteArray) (w : World) : Calls Tryz.prog 111 #[.string s, .bool true] w fun e w' => e = .returned (.bool (nameB s)) ∧ Below w.heap.size w w' := by
 go_enter Tryz.func111, Tryz.ntmps111
 go_wp2_with fail
 refine (vname_any _ _).mono ?_
 rintro e w' ⟨rfl, hb⟩
 go_wp2_with fail
 go_ret
 exact ⟨rfl, hb⟩
set_option maxHeartbeats 400000 in
theorem asked_no (s : ByteArray) (w : World) : Calls Tryz.prog 111 #[.string s, .bool false] w fun e w' => e = .returned (.bool (s.toList == [])) ∧ Below w.heap.size w w' := by
 go_enter Tryz.func111, Tryz.ntmps111
 go_wp2_with fail
 go_ret
 exact ⟨by simp, Below.refl _ _⟩
theorem Tab.nodeUp {w : World} (h : Tab w) (j : Nat) (hj : j < 40) (o : Obj) : (w.alloc o).cell? ⟨2, j, none⟩ = some (nodeTab.getD j .nilFunc) :=
 (h.below h.size ((Below.refl _ _).alloc (Nat.le_refl _) o)).node j hj
theorem Tab.stmtUp {w : World} (h : Tab w) (j : Nat) (hj : j < 45) (o : Obj) (ht : True := by trivial) : (w.alloc o).cell? ⟨0, j, none⟩ = some (.bool (stmtTab.getD j false)) :=
 (h.below h.size ((Below.refl _ _).alloc (Nat.le_refl _) o)).stmt ht j hj
theorem Tab.up1 {w : World} (h : Tab w) (o : Obj) : (w.alloc o).cell? ⟨2, 4, none⟩ = some (.bool false) ∧ (w.alloc o).cell? ⟨2, 5, none⟩ = some (.int .i64 (-2147483648)) ∧ (w.alloc o).cell? ⟨2, 6, none⟩ = some (.int .i64 2147483647) ∧ (w.alloc o).cell? ⟨2, 7, none⟩ = some (.int .i64 0) := by
 exact ⟨h.nodeUp 4 (by omega) o, h.nodeUp 5 (by omega) o, h.nodeUp 6 (by omega) o, h.nodeUp 7 (by omega) o⟩
theorem Tab.up2 {w : World} (h : Tab w) (o : Obj) : (w.alloc o).cell? ⟨2, 8, none⟩ = some (.bool true) ∧ (w.alloc o).cell? ⟨2, 9, none⟩ = some (.int .i64 0) ∧ (w.alloc o).cell? ⟨2, 10, none⟩ = some (.int .i64 0) ∧ (w.alloc o).cell? ⟨2, 11, none⟩ = some (.int .i64 0) := by
 exact ⟨h.nodeUp 8 (by omega) o, h.nodeUp 9 (by omega) o, h.nodeUp 10 (by omega) o, h.nodeUp 11 (by omega) o⟩
theorem Tab.up3 {w : World} (h : Tab w) (o : Obj) : (w.alloc o).cell? ⟨2, 12, none⟩ = some (.bool true) ∧ (w.alloc o).cell? ⟨2, 13, none⟩ = some (.int .i64 0) ∧ (w.alloc o).cell? ⟨2, 14, none⟩ = some (.int .i64 0) ∧ (w.alloc o).cell? ⟨2, 15, none⟩ = some (.int .i64 1) := by
 exact ⟨h.nodeUp 12 (by omega) o, h.nodeUp 13 (by omega) o, h.nodeUp 14 (by omega) o, h.nodeUp 15 (by omega) o⟩
theorem Tab.up4 {w : World} (h : Tab w) (o : Obj) : (w.alloc o).cell? ⟨2, 16, none⟩ = some (.bool true) ∧ (w.alloc o).cell? ⟨2, 17, none⟩ = some (.int .i64 0) ∧ (w.alloc o).cell? ⟨2, 18, none⟩ = some (.int .i64 6) ∧ (w.alloc o).cell? ⟨2, 19, none⟩ = some (.int .i64 0) := by
 exact ⟨h.nodeUp 16 (by omega) o, h.nodeUp 17 (by omega) o, h.nodeUp 18 (by omega) o, h.nodeUp 19 (by omega) o⟩
theorem Tab.up5 {w : World} (h : Tab w) (o : Obj) : (w.alloc o).cell? ⟨2, 20, none⟩ = some (.bool false) ∧ (w.alloc o).cell? ⟨2, 21, none⟩ = some (.int .i64 0) ∧ (w.alloc o).cell? ⟨2, 22, none⟩ = some (.int .i64 0) ∧ (w.alloc o).cell? ⟨2, 23, none⟩ = some (.int .i64 0) := by
 exact ⟨h.nodeUp 20 (by omega) o, h.nodeUp 21 (by omega) o, h.nodeUp 22 (by omega) o, h.nodeUp 23 (by omega) o⟩
theorem Tab.up6 {w : World} (h : Tab w) (o : Obj) : (w.alloc o).cell? ⟨2, 24, none⟩ = some (.bool false) ∧ (w.alloc o).cell? ⟨2, 25, none⟩ = some (.int .i64 0) ∧ (w.alloc o).cell? ⟨2, 26, none⟩ = some (.int .i64 2) ∧ (w.alloc o).cell? ⟨2, 27, none⟩ = some (.int .i64 1) := by
 exact ⟨h.nodeUp 24 (by omega) o, h.nodeUp 25 (by omega) o, h.nodeUp 26 (by omega) o, h.nodeUp 27 (by omega) o⟩
theorem Tab.up7 {w : World} (h : Tab w) (o : Obj) : (w.alloc o).cell? ⟨2, 28, none⟩ = some (.bool false) ∧ (w.alloc o).cell? ⟨2, 29, none⟩ = some (.int .i64 0) ∧ (w.alloc o).cell? ⟨2, 30, none⟩ = some (.int .i64 15) ∧ (w.alloc o).cell? ⟨2, 31, none⟩ = some (.int .i64 2) := by
 exact ⟨h.nodeUp 28 (by omega) o, h.nodeUp 29 (by omega) o, h.nodeUp 30 (by omega) o, h.nodeUp 31 (by omega) o⟩
theorem Tab.up8 {w : World} (h : Tab w) (o : Obj) : (w.alloc o).cell? ⟨2, 32, none⟩ = some (.bool false) ∧ (w.alloc o).cell? ⟨2, 33, none⟩ = some (.int .i64 0) ∧ (w.alloc o).cell? ⟨2, 34, none⟩ = some (.int .i64 0) ∧ (w.alloc o).cell? ⟨2, 35, none⟩ = some (.int .i64 2) := by
 exact ⟨h.nodeUp 32 (by omega) o, h.nodeUp 33 (by omega) o, h.nodeUp 34 (by omega) o, h.nodeUp 35 (by omega) o⟩
theorem Tab.up9 {w : World} (h : Tab w) (o : Obj) : (w.alloc o).cell? ⟨2, 36, none⟩ = some (.bool false) ∧ (w.alloc o).cell? ⟨2, 37, none⟩ = some (.int .i64 0) ∧ (w.alloc o).cell? ⟨2, 38, none⟩ = some (.int .i64 0) ∧ (w.alloc o).cell? ⟨2, 39, none⟩ = some (.int .i64 2) := by
 exact ⟨h.nodeUp 36 (by omega) o, h.nodeUp 37 (by omega) o, h.nodeUp 38 (by omega) o, h.nodeUp 39 (by omega) o⟩
set_option maxHeartbeats 1000000 in
theorem opc1 (v : Int) (s : ByteArray) (w : World) (hT : Tab w) : Calls Tryz.prog 149 #[.agg #[.int .i64 1, .int .i64 v, .string s]] w fun e w' => e = .returned (.int .i64 (arity ⟨1, v, s⟩)) ∧ Below w.heap.size w w' := by
 obtain ⟨c0, c1, c2, c3⟩ := hT.up1 (.cells #[.int .i64 1, .int .i64 v, .string s] 48)
 clear hT
 go_enter Tryz.func149, Tryz.ntmps149
 go_wp2_with fail
 go_ret
 exact ⟨ret_int (by simp [arity]), (Below.refl _ _).alloc (Nat.le_refl _) _⟩
set_option maxHeartbeats 1000000 in
theorem opc2 (v : Int) (s : ByteArray) (w : World) (hT : Tab w) : Calls Tryz.prog 149 #[.agg #[.int .i64 2, .int .i64 v, .string s]] w fun e w' => e = .returned (.int .i64 (arity ⟨2, v, s⟩)) ∧ Below w.heap.size w w' := by
 obtain ⟨c0, c1, c2, c3⟩ := hT.up2 (.cells #[.int .i64 2, .int .i64 v, .string s] 48)
 clear hT
 go_enter Tryz.func149, Tryz.ntmps149
 go_wp2_with fail
 go_ret
 exact ⟨ret_int (by simp [arity]), (Below.refl _ _).alloc (Nat.le_refl _) _⟩
set_option maxHeartbeats 1000000 in
theorem opc3 (v : Int) (s : ByteArray) (w : World) (hT : Tab w) : Calls Tryz.prog 149 #[.agg #[.int .i64 3, .int .i64 v, .string s]] w fun e w' => e = .returned (.int .i64 (arity ⟨3, v, s⟩)) ∧ Below w.heap.size w w' := by
 obtain ⟨c0, c1, c2, c3⟩ := hT.up3 (.cells #[.int .i64 3, .int .i64 v, .string s] 48)
 clear hT
 go_enter Tryz.func149, Tryz.ntmps149
 go_wp2_with fail
 go_ret
 exact ⟨ret_int (by simp [arity]), (Below.refl _ _).alloc (Nat.le_refl _) _⟩
set_option maxHeartbeats 1000000 in
theorem opc4 (v : Int) (s : ByteArray) (w : World) (hT : Tab w) : Calls Tryz.prog 149 #[.agg #[.int .i64 4, .int .i64 v, .string s]] w fun e w' => e = .returned (.int .i64 (arity ⟨4, v, s⟩)) ∧ Below w.heap.size w w' := by
 obtain ⟨c0, c1, c2, c3⟩ := hT.up4 (.cells #[.int .i64 4, .int .i64 v, .string s] 48)
 clear hT
 go_enter Tryz.func149, Tryz.ntmps149
 go_wp2_with fail
 go_ret
 exact ⟨ret_int (by simp [arity]), (Below.refl _ _).alloc (Nat.le_refl _) _⟩
set_option maxHeartbeats 1000000 in
theorem opc5 (v : Int) (s : ByteArray) (w : World) (hT : Tab w) : Calls Tryz.prog 149 #[.agg #[.int .i64 5, .int .i64 v, .string s]] w fun e w' => e = .returned (.int .i64 (arity ⟨5, v, s⟩)) ∧ Below w.heap.size w w' := by
 obtain ⟨c0, c1, c2, c3⟩ := hT.up5 (.cells #[.int .i64 5, .int .i64 v, .string s] 48)
 clear hT
 go_enter Tryz.func149, Tryz.ntmps149
 go_wp2_with fail
 go_ret
 exact ⟨ret_int (by simp [arity]), (Below.refl _ _).alloc (Nat.le_refl _) _⟩
set_option maxHeartbeats 1000000 in
theorem opc6 (v : Int) (s : ByteArray) (w : World) (hT : Tab w) : Calls Tryz.prog 149 #[.agg #[.int .i64 6, .int .i64 v, .string s]] w fun e w' => e = .returned (.int .i64 (arity ⟨6, v, s⟩)) ∧ Below w.heap.size w w' := by
 obtain ⟨c0, c1, c2, c3⟩ := hT.up6 (.cells #[.int .i64 6, .int .i64 v, .string s] 48)
 clear hT
 go_enter Tryz.func149, Tryz.ntmps149
 go_wp2_with fail
 go_ret
 exact ⟨ret_int (by simp [arity]), (Below.refl _ _).alloc (Nat.le_refl _) _⟩
set_option maxHeartbeats 1000000 in
theorem opc7 (v : Int) (s : ByteArray) (w : World) (hT : Tab w) : Calls Tryz.prog 149 #[.agg #[.int .i64 7, .int .i64 v, .string s]] w fun e w' => e = .returned (.int .i64 (arity ⟨7, v, s⟩)) ∧ Below w.heap.size w w' := by
 obtain ⟨c0, c1, c2, c3⟩ := hT.up7 (.cells #[.int .i64 7, .int .i64 v, .string s] 48)
 clear hT
 go_enter Tryz.func149, Tryz.ntmps149
 go_wp2_with fail
 go_ret
 exact ⟨ret_int (by simp [arity]), (Below.refl _ _).alloc (Nat.le_refl _) _⟩
set_option maxHeartbeats 1000000 in
theorem opc8 (v : Int) (s : ByteArray) (w : World) (hT : Tab w) : Calls Tryz.prog 149 #[.agg #[.int .i64 8, .int .i64 v, .string s]] w fun e w' => e = .returned (.int .i64 (arity ⟨8, v, s⟩)) ∧ Below w.heap.size w w' := by
 obtain ⟨c0, c1, c2, c3⟩ := hT.up8 (.cells #[.int .i64 8, .int .i64 v, .string s] 48)
 clear hT
 go_enter Tryz.func149, Tryz.ntmps149
 go_wp2_with fail
 go_ret
 exact ⟨ret_int (by simp [arity]), (Below.refl _ _).alloc (Nat.le_refl _) _⟩
set_option maxHeartbeats 1000000 in
theorem opc9 (v : Int) (s : ByteArray) (w : World) (hT : Tab w) : Calls Tryz.prog 149 #[.agg #[.int .i64 9, .int .i64 v, .string s]] w fun e w' => e = .returned (.int .i64 (arity ⟨9, v, s⟩)) ∧ Below w.heap.size w w' := by
 obtain ⟨c0, c1, c2, c3⟩ := hT.up9 (.cells #[.int .i64 9, .int .i64 v, .string s] 48)
 clear hT
 go_enter Tryz.func149, Tryz.ntmps149
 go_wp2_with fail
 go_ret
 exact ⟨ret_int (by simp [arity]), (Below.refl _ _).alloc (Nat.le_refl _) _⟩
theorem opc_any (n : Nd) (w : World) (hT : Tab w) (hk : 1 ≤ n.kind ∧ n.kind ≤ 9) : Calls Tryz.prog 149 #[.agg #[.int .i64 n.kind, .int .i64 n.val, .string n.name]] w fun e w' => e = .returned (.int .i64 (arity n)) ∧ Below w.heap.size w w' := by
 obtain ⟨k, v, s⟩ := n
 have h9 : k = 1 ∨ k = 2 ∨ k = 3 ∨ k = 4 ∨ k = 5 ∨ k = 6 ∨ k = 7 ∨ k = 8 ∨ k = 9 := by simp only at hk; omega
 rcases h9 with rfl | rfl | rfl | rfl | rfl | rfl | rfl | rfl | rfl
 ·exact opc1 v s w hT
 ·exact opc2 v s w hT
 ·exact opc3 v s w hT
 ·exact opc4 v s w hT
 ·exact opc5 v s w hT
 ·exact opc6 v s w hT
 ·exact opc7 v s w hT
 ·exact opc8 v s w hT
 ·exact opc9 v s w hT
set_option maxHeartbeats 1000000 in
theorem vnode1 (v : Int) (s : ByteArray) (w : World) (hT : Tab w) : Calls Tryz.prog 148 #[.agg #[.int .i64 1, .int .i64 v, .string s]] w fun e w' => e = .returned (.bool (nodeB ⟨1, v, s⟩)) ∧ Below w.heap.size w w' := by
 obtain ⟨c0, c1, c2, c3⟩ := hT.up1 (.cells #[.int .i64 1, .int .i64 v, .string s] 48)
 clear hT
 by_cases h1 : v < (-2147483648)
 ·go_enter Tryz.func148, Tryz.ntmps148
  go_wp2_with fail
  go_ret
  exact ⟨ret_bool (by simp [nodeB]; omega), ((Below.refl _ _).alloc (Nat.le_refl _) _).alloc (by simp) _⟩
 ·by_cases h2 : 2147483647 < v
  ·go_enter Tryz.func148, Tryz.ntmps148
   go_wp2_with fail
   go_ret
   exact ⟨ret_bool (by simp [nodeB]; omega), ((Below.refl _ _).alloc (Nat.le_refl _) _).alloc (by simp) _⟩
  ·go_enter Tryz.func148, Tryz.ntmps148
   go_wp2_with fail
   refine (asked_no _ _).mono ?_
   rintro e w' ⟨rfl, hb⟩
   go_wp2_with fail
   go_ret
   refine ⟨ret_bool ?_, (((Below.refl _ _).alloc (Nat.le_refl _) _).alloc (by simp) _).trans (hb.mono (by simp; omega))⟩
   simp [nodeB]; omega
set_option maxHeartbeats 1000000 in
theorem vnode2 (v : Int) (s : ByteArray) (w : World) (hT : Tab w) : Calls Tryz.prog 148 #[.agg #[.int .i64 2, .int .i64 v, .string s]] w fun e w' => e = .returned (.bool (nodeB ⟨2, v, s⟩)) ∧ Below w.heap.size w w' := by
 obtain ⟨c0, c1, c2, c3⟩ := hT.up2 (.cells #[.int .i64 2, .int .i64 v, .string s] 48)
 clear hT
 by_cases h1 : v < 0
 ·go_enter Tryz.func148, Tryz.ntmps148
  go_wp2_with fail
  go_ret
  exact ⟨ret_bool (by simp [nodeB]; omega), ((Below.refl _ _).alloc (Nat.le_refl _) _).alloc (by simp) _⟩
 ·by_cases h2 : 0 < v
  ·go_enter Tryz.func148, Tryz.ntmps148
   go_wp2_with fail
   go_ret
   exact ⟨ret_bool (by simp [nodeB]; omega), ((Below.refl _ _).alloc (Nat.le_refl _) _).alloc (by simp) _⟩
  ·go_enter Tryz.func148, Tryz.ntmps148
   go_wp2_with fail
   refine (asked_yes _ _).mono ?_
   rintro e w' ⟨rfl, hb⟩
   go_wp2_with fail
   go_ret
   refine ⟨ret_bool ?_, (((Below.refl _ _).alloc (Nat.le_refl _) _).alloc (by simp) _).trans (hb.mono (by simp; omega))⟩
   simp [nodeB]; omega
set_option maxHeartbeats 1000000 in
theorem vnode3 (v : Int) (s : ByteArray) (w : World) (hT : Tab w) : Calls Tryz.prog 148 #[.agg #[.int .i64 3, .int .i64 v, .string s]] w fun e w' => e = .returned (.bool (nodeB ⟨3, v, s⟩)) ∧ Below w.heap.size w w' := by
 obtain ⟨c0, c1, c2, c3⟩ := hT.up3 (.cells #[.int .i64 3, .int .i64 v, .string s] 48)
 clear hT
 by_cases h1 : v < 0
 ·go_enter Tryz.func148, Tryz.ntmps148
  go_wp2_with fail
  go_ret
  exact ⟨ret_bool (by simp [nodeB]; omega), ((Below.refl _ _).alloc (Nat.le_refl _) _).alloc (by simp) _⟩
 ·by_cases h2 : 0 < v
  ·go_enter Tryz.func148, Tryz.ntmps148
   go_wp2_with fail
   go_ret
   exact ⟨ret_bool (by simp [nodeB]; omega), ((Below.refl _ _).alloc (Nat.le_refl _) _).alloc (by simp) _⟩
  ·go_enter Tryz.func148, Tryz.ntmps148
   go_wp2_with fail
   refine (asked_yes _ _).mono ?_
   rintro e w' ⟨rfl, hb⟩
   go_wp2_with fail
   go_ret
   refine ⟨ret_bool ?_, (((Below.refl _ _).alloc (Nat.le_refl _) _).alloc (by simp) _).trans (hb.mono (by simp; omega))⟩
   simp [nodeB]; omega
set_option maxHeartbeats 1000000 in
theorem vnode4 (v : Int) (s : ByteArray) (w : World) (hT : Tab w) : Calls Tryz.prog 148 #[.agg #[.int .i64 4, .int .i64 v, .string s]] w fun e w' => e = .returned (.bool (nodeB ⟨4, v, s⟩)) ∧ Below w.heap.size w w' := by
 obtain ⟨c0, c1, c2, c3⟩ := hT.up4 (.cells #[.int .i64 4, .int .i64 v, .string s] 48)
 clear hT
 by_cases h1 : v < 0
 ·go_enter Tryz.func148, Tryz.ntmps148
  go_wp2_with fail
  go_ret
  exact ⟨ret_bool (by simp [nodeB]; omega), ((Below.refl _ _).alloc (Nat.le_refl _) _).alloc (by simp) _⟩
 ·by_cases h2 : 6 < v
  ·go_enter Tryz.func148, Tryz.ntmps148
   go_wp2_with fail
   go_ret
   exact ⟨ret_bool (by simp [nodeB]; omega), ((Below.refl _ _).alloc (Nat.le_refl _) _).alloc (by simp) _⟩
  ·go_enter Tryz.func148, Tryz.ntmps148
   go_wp2_with fail
   refine (asked_yes _ _).mono ?_
   rintro e w' ⟨rfl, hb⟩
   go_wp2_with fail
   go_ret
   refine ⟨ret_bool ?_, (((Below.refl _ _).alloc (Nat.le_refl _) _).alloc (by simp) _).trans (hb.mono (by simp; omega))⟩
   simp [nodeB]; omega
set_option maxHeartbeats 1000000 in
theorem vnode5 (v : Int) (s : ByteArray) (w : World) (hT : Tab w) : Calls Tryz.prog 148 #[.agg #[.int .i64 5, .int .i64 v, .string s]] w fun e w' => e = .returned (.bool (nodeB ⟨5, v, s⟩)) ∧ Below w.heap.size w w' := by
 obtain ⟨c0, c1, c2, c3⟩ := hT.up5 (.cells #[.int .i64 5, .int .i64 v, .string s] 48)
 clear hT
 by_cases h1 : v < 0
 ·go_enter Tryz.func148, Tryz.ntmps148
  go_wp2_with fail
  go_ret
  exact ⟨ret_bool (by simp [nodeB]; omega), ((Below.refl _ _).alloc (Nat.le_refl _) _).alloc (by simp) _⟩
 ·by_cases h2 : 0 < v
  ·go_enter Tryz.func148, Tryz.ntmps148
   go_wp2_with fail
   go_ret
   exact ⟨ret_bool (by simp [nodeB]; omega), ((Below.refl _ _).alloc (Nat.le_refl _) _).alloc (by simp) _⟩
  ·go_enter Tryz.func148, Tryz.ntmps148
   go_wp2_with fail
   refine (asked_no _ _).mono ?_
   rintro e w' ⟨rfl, hb⟩
   go_wp2_with fail
   go_ret
   refine ⟨ret_bool ?_, (((Below.refl _ _).alloc (Nat.le_refl _) _).alloc (by simp) _).trans (hb.mono (by simp; omega))⟩
   simp [nodeB]; omega
set_option maxHeartbeats 1000000 in
theorem vnode6 (v : Int) (s : ByteArray) (w : World) (hT : Tab w) : Calls Tryz.prog 148 #[.agg #[.int .i64 6, .int .i64 v, .string s]] w fun e w' => e = .returned (.bool (nodeB ⟨6, v, s⟩)) ∧ Below w.heap.size w w' := by
 obtain ⟨c0, c1, c2, c3⟩ := hT.up6 (.cells #[.int .i64 6, .int .i64 v, .string s] 48)
 clear hT
 by_cases h1 : v < 0
 ·go_enter Tryz.func148, Tryz.ntmps148
  go_wp2_with fail
  go_ret
  exact ⟨ret_bool (by simp [nodeB]; omega), ((Below.refl _ _).alloc (Nat.le_refl _) _).alloc (by simp) _⟩
 ·by_cases h2 : 2 < v
  ·go_enter Tryz.func148, Tryz.ntmps148
   go_wp2_with fail
   go_ret
   exact ⟨ret_bool (by simp [nodeB]; omega), ((Below.refl _ _).alloc (Nat.le_refl _) _).alloc (by simp) _⟩
  ·go_enter Tryz.func148, Tryz.ntmps148
   go_wp2_with fail
   refine (asked_no _ _).mono ?_
   rintro e w' ⟨rfl, hb⟩
   go_wp2_with fail
   go_ret
   refine ⟨ret_bool ?_, (((Below.refl _ _).alloc (Nat.le_refl _) _).alloc (by simp) _).trans (hb.mono (by simp; omega))⟩
   simp [nodeB]; omega
set_option maxHeartbeats 1000000 in
theorem vnode7 (v : Int) (s : ByteArray) (w : World) (hT : Tab w) : Calls Tryz.prog 148 #[.agg #[.int .i64 7, .int .i64 v, .string s]] w fun e w' => e = .returned (.bool (nodeB ⟨7, v, s⟩)) ∧ Below w.heap.size w w' := by
 obtain ⟨c0, c1, c2, c3⟩ := hT.up7 (.cells #[.int .i64 7, .int .i64 v, .string s] 48)
 clear hT
 by_cases h1 : v < 0
 ·go_enter Tryz.func148, Tryz.ntmps148
  go_wp2_with fail
  go_ret
  exact ⟨ret_bool (by simp [nodeB]; omega), ((Below.refl _ _).alloc (Nat.le_refl _) _).alloc (by simp) _⟩
 ·by_cases h2 : 15 < v
  ·go_enter Tryz.func148, Tryz.ntmps148
   go_wp2_with fail
   go_ret
   exact ⟨ret_bool (by simp [nodeB]; omega), ((Below.refl _ _).alloc (Nat.le_refl _) _).alloc (by simp) _⟩
  ·go_enter Tryz.func148, Tryz.ntmps148
   go_wp2_with fail
   refine (asked_no _ _).mono ?_
   rintro e w' ⟨rfl, hb⟩
   go_wp2_with fail
   go_ret
   refine ⟨ret_bool ?_, (((Below.refl _ _).alloc (Nat.le_refl _) _).alloc (by simp) _).trans (hb.mono (by simp; omega))⟩
   simp [nodeB]; omega
set_option maxHeartbeats 1000000 in
theorem vnode8 (v : Int) (s : ByteArray) (w : World) (hT : Tab w) : Calls Tryz.prog 148 #[.agg #[.int .i64 8, .int .i64 v, .string s]] w fun e w' => e = .returned (.bool (nodeB ⟨8, v, s⟩)) ∧ Below w.heap.size w w' := by
 obtain ⟨c0, c1, c2, c3⟩ := hT.up8 (.cells #[.int .i64 8, .int .i64 v, .string s] 48)
 clear hT
 by_cases h1 : v < 0
 ·go_enter Tryz.func148, Tryz.ntmps148
  go_wp2_with fail
  go_ret
  exact ⟨ret_bool (by simp [nodeB]; omega), ((Below.refl _ _).alloc (Nat.le_refl _) _).alloc (by simp) _⟩
 ·by_cases h2 : 0 < v
  ·go_enter Tryz.func148, Tryz.ntmps148
   go_wp2_with fail
   go_ret
   exact ⟨ret_bool (by simp [nodeB]; omega), ((Below.refl _ _).alloc (Nat.le_refl _) _).alloc (by simp) _⟩
  ·go_enter Tryz.func148, Tryz.ntmps148
   go_wp2_with fail
   refine (asked_no _ _).mono ?_
   rintro e w' ⟨rfl, hb⟩
   go_wp2_with fail
   go_ret
   refine ⟨ret_bool ?_, (((Below.refl _ _).alloc (Nat.le_refl _) _).alloc (by simp) _).trans (hb.mono (by simp; omega))⟩
   simp [nodeB]; omega
set_option maxHeartbeats 1000000 in
theorem vnode9 (v : Int) (s : ByteArray) (w : World) (hT : Tab w) : Calls Tryz.prog 148 #[.agg #[.int .i64 9, .int .i64 v, .string s]] w fun e w' => e = .returned (.bool (nodeB ⟨9, v, s⟩)) ∧ Below w.heap.size w w' := by
 obtain ⟨c0, c1, c2, c3⟩ := hT.up9 (.cells #[.int .i64 9, .int .i64 v, .string s] 48)
 clear hT
 by_cases h1 : v < 0
 ·go_enter Tryz.func148, Tryz.ntmps148
  go_wp2_with fail
  go_ret
  exact ⟨ret_bool (by simp [nodeB]; omega), ((Below.refl _ _).alloc (Nat.le_refl _) _).alloc (by simp) _⟩
 ·by_cases h2 : 0 < v
  ·go_enter Tryz.func148, Tryz.ntmps148
   go_wp2_with fail
   go_ret
   exact ⟨ret_bool (by simp [nodeB]; omega), ((Below.refl _ _).alloc (Nat.le_refl _) _).alloc (by simp) _⟩
  ·go_enter Tryz.func148, Tryz.ntmps148
   go_wp2_with fail
   refine (asked_no _ _).mono ?_
   rintro e w' ⟨rfl, hb⟩
   go_wp2_with fail
   go_ret
   refine ⟨ret_bool ?_, (((Below.refl _ _).alloc (Nat.le_refl _) _).alloc (by simp) _).trans (hb.mono (by simp; omega))⟩
   simp [nodeB]; omega
set_option maxHeartbeats 1000000 in
theorem vnodeX (k v : Int) (s : ByteArray) (w : World) (hk : k < 1 ∨ 9 < k) : Calls Tryz.prog 148 #[.agg #[.int .i64 k, .int .i64 v, .string s]] w fun e w' => e = .returned (.bool (nodeB ⟨k, v, s⟩)) ∧ Below w.heap.size w w' := by
 have hn : nodeB ⟨k, v, s⟩ = false := by
  simp only [nodeB]
  rw [if_neg (by omega), if_neg (by omega), if_neg (by omega), if_neg (by omega), if_neg (by omega), if_neg (by omega)]
 rw [hn]
 clear hn
 rcases hk with hk | hk
 ·go_enter Tryz.func148, Tryz.ntmps148
  go_wp2_with fail
  go_ret
  exact ⟨rfl, (Below.refl _ _).alloc (Nat.le_refl _) _⟩
 ·have h' : 1 ≤ k := by omega
  go_enter Tryz.func148, Tryz.ntmps148
  go_wp2_with fail
  go_ret
  exact ⟨rfl, (Below.refl _ _).alloc (Nat.le_refl _) _⟩
theorem vnode_any (n : Nd) (w : World) (hT : Tab w) : Calls Tryz.prog 148 #[.agg #[.int .i64 n.kind, .int .i64 n.val, .string n.name]] w fun e w' => e = .returned (.bool (nodeB n)) ∧ Below w.heap.size w w' := by
 obtain ⟨k, v, s⟩ := n
 by_cases hk : k < 1 ∨ 9 < k
 ·exact vnodeX k v s w hk
 have h9 : k = 1 ∨ k = 2 ∨ k = 3 ∨ k = 4 ∨ k = 5 ∨ k = 6 ∨ k = 7 ∨ k = 8 ∨ k = 9 := by omega
 rcases h9 with rfl | rfl | rfl | rfl | rfl | rfl | rfl | rfl | rfl
 ·exact vnode1 v s w hT
 ·exact vnode2 v s w hT
 ·exact vnode3 v s w hT
 ·exact vnode4 v s w hT
 ·exact vnode5 v s w hT
 ·exact vnode6 v s w hT
 ·exact vnode7 v s w hT
 ·exact vnode8 v s w hT
 ·exact vnode9 v s w hT
end
end Go.Proofs.YtlamjfhhefcohaaGreatDoor
