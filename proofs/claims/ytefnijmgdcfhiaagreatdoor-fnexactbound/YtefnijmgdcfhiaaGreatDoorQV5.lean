import Derived.Test.YtefnijmgdcfhiaaGreatDoorQV3
namespace Go.Proofs.YtefnijmgdcfhiaaGreatDoor
open Go.RowKit
set_option linter.unusedVariables false
set_option linter.unusedSimpArgs false

/-- The cells of the table of nodes, and of that of statements. -/
def nodeTab : List Value := [.bool false, .int .i64 0, .int .i64 0, .int .i64 0, .bool false, .int .i64 (-2147483648), .int .i64 2147483647, .int .i64 0, .bool true, .int .i64 0, .int .i64 0, .int .i64 0, .bool true, .int .i64 0, .int .i64 0, .int .i64 1, .bool true, .int .i64 0, .int .i64 6, .int .i64 0, .bool false, .int .i64 0, .int .i64 0, .int .i64 0, .bool false, .int .i64 0, .int .i64 2, .int .i64 1, .bool false, .int .i64 0, .int .i64 15, .int .i64 2, .bool false, .int .i64 0, .int .i64 0, .int .i64 2, .bool false, .int .i64 0, .int .i64 0, .int .i64 2]
def stmtTab : List Bool := [false, false, false, false, false, true, false, false, false, false, true, false, false, false, false, true, true, false, false, false, false, false, true, true, false, false, false, true, false, false, false, false, false, false, false, false, false, false, false, false, false, false, false, false, true]
structure Tab (w : World) : Prop where
  node : ∀ j, j < 40 → w.cell? ⟨0, j, none⟩ = some (nodeTab.getD j .nilFunc)
  stmt : True → ∀ j, j < 45 → w.cell? ⟨1, j, none⟩ = some (.bool (stmtTab.getD j false))
  size : 0 < w.heap.size ∧ 1 < w.heap.size
theorem Tab.below {w w' : World} {B : Nat} (h : Tab w) (hB : 0 < B ∧ 1 < B) (hb : Below B w w') : Tab w' := by
  refine ⟨fun j hj => ?_, fun ht j hj => ?_, Nat.lt_of_lt_of_le h.size.1 hb.size, Nat.lt_of_lt_of_le h.size.2 hb.size⟩
  · rw [hb.cell hB.1]; exact h.node j hj
  · rw [hb.cell hB.2]; exact h.stmt ht j hj
/-- The four cells of one kind of node. -/
theorem Tab.nodeAt {w : World} (h : Tab w) (k : Nat) (hk : k < 10) : w.cell? ⟨0, k * 4, none⟩ = some (nodeTab.getD (k * 4) .nilFunc) ∧ w.cell? ⟨0, k * 4 + 1, none⟩ = some (nodeTab.getD (k * 4 + 1) .nilFunc) ∧ w.cell? ⟨0, k * 4 + 2, none⟩ = some (nodeTab.getD (k * 4 + 2) .nilFunc) ∧ w.cell? ⟨0, k * 4 + 3, none⟩ = some (nodeTab.getD (k * 4 + 3) .nilFunc) :=
  ⟨h.node _ (by omega), h.node _ (by omega), h.node _ (by omega), h.node _ (by omega)⟩

set_option maxHeartbeats 400000 in
theorem asked_yes (s : ByteArray) (w : World) : Calls Tryz.prog 129 #[.string s, .bool true] w fun e w' => e = .returned (.bool (nameB s)) ∧ Below w.heap.size w w' := by
  go_enter Tryz.func129, Tryz.ntmps129
  go_wp2_with fail
  refine (vname_any _ _).mono ?_
  rintro e w' ⟨rfl, hb⟩
  go_wp2_with fail
  go_ret
  exact ⟨rfl, hb⟩
set_option maxHeartbeats 400000 in
theorem asked_no (s : ByteArray) (w : World) : Calls Tryz.prog 129 #[.string s, .bool false] w fun e w' => e = .returned (.bool (s.toList == [])) ∧ Below w.heap.size w w' := by
  go_enter Tryz.func129, Tryz.ntmps129
  go_wp2_with fail
  go_ret
  exact ⟨by simp, Below.refl _ _⟩

theorem Tab.nodeUp {w : World} (h : Tab w) (j : Nat) (hj : j < 40) (o : Obj) : (w.alloc o).cell? ⟨0, j, none⟩ = some (nodeTab.getD j .nilFunc) :=
  (h.below h.size ((Below.refl _ _).alloc (Nat.le_refl _) o)).node j hj
theorem Tab.stmtUp {w : World} (h : Tab w) (j : Nat) (hj : j < 45) (o : Obj) (ht : True := by trivial) : (w.alloc o).cell? ⟨1, j, none⟩ = some (.bool (stmtTab.getD j false)) :=
  (h.below h.size ((Below.refl _ _).alloc (Nat.le_refl _) o)).stmt ht j hj

theorem Tab.up1 {w : World} (h : Tab w) (o : Obj) : (w.alloc o).cell? ⟨0, 4, none⟩ = some (.bool false) ∧ (w.alloc o).cell? ⟨0, 5, none⟩ = some (.int .i64 (-2147483648)) ∧ (w.alloc o).cell? ⟨0, 6, none⟩ = some (.int .i64 2147483647) ∧ (w.alloc o).cell? ⟨0, 7, none⟩ = some (.int .i64 0) := by
  exact ⟨h.nodeUp 4 (by omega) o, h.nodeUp 5 (by omega) o, h.nodeUp 6 (by omega) o, h.nodeUp 7 (by omega) o⟩

theorem Tab.up2 {w : World} (h : Tab w) (o : Obj) : (w.alloc o).cell? ⟨0, 8, none⟩ = some (.bool true) ∧ (w.alloc o).cell? ⟨0, 9, none⟩ = some (.int .i64 0) ∧ (w.alloc o).cell? ⟨0, 10, none⟩ = some (.int .i64 0) ∧ (w.alloc o).cell? ⟨0, 11, none⟩ = some (.int .i64 0) := by
  exact ⟨h.nodeUp 8 (by omega) o, h.nodeUp 9 (by omega) o, h.nodeUp 10 (by omega) o, h.nodeUp 11 (by omega) o⟩

theorem Tab.up3 {w : World} (h : Tab w) (o : Obj) : (w.alloc o).cell? ⟨0, 12, none⟩ = some (.bool true) ∧ (w.alloc o).cell? ⟨0, 13, none⟩ = some (.int .i64 0) ∧ (w.alloc o).cell? ⟨0, 14, none⟩ = some (.int .i64 0) ∧ (w.alloc o).cell? ⟨0, 15, none⟩ = some (.int .i64 1) := by
  exact ⟨h.nodeUp 12 (by omega) o, h.nodeUp 13 (by omega) o, h.nodeUp 14 (by omega) o, h.nodeUp 15 (by omega) o⟩

theorem Tab.up4 {w : World} (h : Tab w) (o : Obj) : (w.alloc o).cell? ⟨0, 16, none⟩ = some (.bool true) ∧ (w.alloc o).cell? ⟨0, 17, none⟩ = some (.int .i64 0) ∧ (w.alloc o).cell? ⟨0, 18, none⟩ = some (.int .i64 6) ∧ (w.alloc o).cell? ⟨0, 19, none⟩ = some (.int .i64 0) := by
  exact ⟨h.nodeUp 16 (by omega) o, h.nodeUp 17 (by omega) o, h.nodeUp 18 (by omega) o, h.nodeUp 19 (by omega) o⟩

theorem Tab.up5 {w : World} (h : Tab w) (o : Obj) : (w.alloc o).cell? ⟨0, 20, none⟩ = some (.bool false) ∧ (w.alloc o).cell? ⟨0, 21, none⟩ = some (.int .i64 0) ∧ (w.alloc o).cell? ⟨0, 22, none⟩ = some (.int .i64 0) ∧ (w.alloc o).cell? ⟨0, 23, none⟩ = some (.int .i64 0) := by
  exact ⟨h.nodeUp 20 (by omega) o, h.nodeUp 21 (by omega) o, h.nodeUp 22 (by omega) o, h.nodeUp 23 (by omega) o⟩

theorem Tab.up6 {w : World} (h : Tab w) (o : Obj) : (w.alloc o).cell? ⟨0, 24, none⟩ = some (.bool false) ∧ (w.alloc o).cell? ⟨0, 25, none⟩ = some (.int .i64 0) ∧ (w.alloc o).cell? ⟨0, 26, none⟩ = some (.int .i64 2) ∧ (w.alloc o).cell? ⟨0, 27, none⟩ = some (.int .i64 1) := by
  exact ⟨h.nodeUp 24 (by omega) o, h.nodeUp 25 (by omega) o, h.nodeUp 26 (by omega) o, h.nodeUp 27 (by omega) o⟩

theorem Tab.up7 {w : World} (h : Tab w) (o : Obj) : (w.alloc o).cell? ⟨0, 28, none⟩ = some (.bool false) ∧ (w.alloc o).cell? ⟨0, 29, none⟩ = some (.int .i64 0) ∧ (w.alloc o).cell? ⟨0, 30, none⟩ = some (.int .i64 15) ∧ (w.alloc o).cell? ⟨0, 31, none⟩ = some (.int .i64 2) := by
  exact ⟨h.nodeUp 28 (by omega) o, h.nodeUp 29 (by omega) o, h.nodeUp 30 (by omega) o, h.nodeUp 31 (by omega) o⟩

theorem Tab.up8 {w : World} (h : Tab w) (o : Obj) : (w.alloc o).cell? ⟨0, 32, none⟩ = some (.bool false) ∧ (w.alloc o).cell? ⟨0, 33, none⟩ = some (.int .i64 0) ∧ (w.alloc o).cell? ⟨0, 34, none⟩ = some (.int .i64 0) ∧ (w.alloc o).cell? ⟨0, 35, none⟩ = some (.int .i64 2) := by
  exact ⟨h.nodeUp 32 (by omega) o, h.nodeUp 33 (by omega) o, h.nodeUp 34 (by omega) o, h.nodeUp 35 (by omega) o⟩

theorem Tab.up9 {w : World} (h : Tab w) (o : Obj) : (w.alloc o).cell? ⟨0, 36, none⟩ = some (.bool false) ∧ (w.alloc o).cell? ⟨0, 37, none⟩ = some (.int .i64 0) ∧ (w.alloc o).cell? ⟨0, 38, none⟩ = some (.int .i64 0) ∧ (w.alloc o).cell? ⟨0, 39, none⟩ = some (.int .i64 2) := by
  exact ⟨h.nodeUp 36 (by omega) o, h.nodeUp 37 (by omega) o, h.nodeUp 38 (by omega) o, h.nodeUp 39 (by omega) o⟩

set_option maxHeartbeats 1000000 in
theorem opc1 (v : Int) (s : ByteArray) (w : World) (hT : Tab w) : Calls Tryz.prog 97 #[.agg #[.int .i64 1, .int .i64 v, .string s]] w fun e w' => e = .returned (.int .i64 (arity ⟨1, v, s⟩)) ∧ Below w.heap.size w w' := by
  obtain ⟨c0, c1, c2, c3⟩ := hT.up1 (.cells #[.int .i64 1, .int .i64 v, .string s] 93)
  clear hT
  go_enter Tryz.func97, Tryz.ntmps97
  go_wp2_with fail
  go_ret
  exact ⟨ret_int (by simp [arity]), (Below.refl _ _).alloc (Nat.le_refl _) _⟩

set_option maxHeartbeats 1000000 in
theorem opc2 (v : Int) (s : ByteArray) (w : World) (hT : Tab w) : Calls Tryz.prog 97 #[.agg #[.int .i64 2, .int .i64 v, .string s]] w fun e w' => e = .returned (.int .i64 (arity ⟨2, v, s⟩)) ∧ Below w.heap.size w w' := by
  obtain ⟨c0, c1, c2, c3⟩ := hT.up2 (.cells #[.int .i64 2, .int .i64 v, .string s] 93)
  clear hT
  go_enter Tryz.func97, Tryz.ntmps97
  go_wp2_with fail
  go_ret
  exact ⟨ret_int (by simp [arity]), (Below.refl _ _).alloc (Nat.le_refl _) _⟩

set_option maxHeartbeats 1000000 in
theorem opc3 (v : Int) (s : ByteArray) (w : World) (hT : Tab w) : Calls Tryz.prog 97 #[.agg #[.int .i64 3, .int .i64 v, .string s]] w fun e w' => e = .returned (.int .i64 (arity ⟨3, v, s⟩)) ∧ Below w.heap.size w w' := by
  obtain ⟨c0, c1, c2, c3⟩ := hT.up3 (.cells #[.int .i64 3, .int .i64 v, .string s] 93)
  clear hT
  go_enter Tryz.func97, Tryz.ntmps97
  go_wp2_with fail
  go_ret
  exact ⟨ret_int (by simp [arity]), (Below.refl _ _).alloc (Nat.le_refl _) _⟩

set_option maxHeartbeats 1000000 in
theorem opc4 (v : Int) (s : ByteArray) (w : World) (hT : Tab w) : Calls Tryz.prog 97 #[.agg #[.int .i64 4, .int .i64 v, .string s]] w fun e w' => e = .returned (.int .i64 (arity ⟨4, v, s⟩)) ∧ Below w.heap.size w w' := by
  obtain ⟨c0, c1, c2, c3⟩ := hT.up4 (.cells #[.int .i64 4, .int .i64 v, .string s] 93)
  clear hT
  go_enter Tryz.func97, Tryz.ntmps97
  go_wp2_with fail
  go_ret
  exact ⟨ret_int (by simp [arity]), (Below.refl _ _).alloc (Nat.le_refl _) _⟩

set_option maxHeartbeats 1000000 in
theorem opc5 (v : Int) (s : ByteArray) (w : World) (hT : Tab w) : Calls Tryz.prog 97 #[.agg #[.int .i64 5, .int .i64 v, .string s]] w fun e w' => e = .returned (.int .i64 (arity ⟨5, v, s⟩)) ∧ Below w.heap.size w w' := by
  obtain ⟨c0, c1, c2, c3⟩ := hT.up5 (.cells #[.int .i64 5, .int .i64 v, .string s] 93)
  clear hT
  go_enter Tryz.func97, Tryz.ntmps97
  go_wp2_with fail
  go_ret
  exact ⟨ret_int (by simp [arity]), (Below.refl _ _).alloc (Nat.le_refl _) _⟩

set_option maxHeartbeats 1000000 in
theorem opc6 (v : Int) (s : ByteArray) (w : World) (hT : Tab w) : Calls Tryz.prog 97 #[.agg #[.int .i64 6, .int .i64 v, .string s]] w fun e w' => e = .returned (.int .i64 (arity ⟨6, v, s⟩)) ∧ Below w.heap.size w w' := by
  obtain ⟨c0, c1, c2, c3⟩ := hT.up6 (.cells #[.int .i64 6, .int .i64 v, .string s] 93)
  clear hT
  go_enter Tryz.func97, Tryz.ntmps97
  go_wp2_with fail
  go_ret
  exact ⟨ret_int (by simp [arity]), (Below.refl _ _).alloc (Nat.le_refl _) _⟩

set_option maxHeartbeats 1000000 in
theorem opc7 (v : Int) (s : ByteArray) (w : World) (hT : Tab w) : Calls Tryz.prog 97 #[.agg #[.int .i64 7, .int .i64 v, .string s]] w fun e w' => e = .returned (.int .i64 (arity ⟨7, v, s⟩)) ∧ Below w.heap.size w w' := by
  obtain ⟨c0, c1, c2, c3⟩ := hT.up7 (.cells #[.int .i64 7, .int .i64 v, .string s] 93)
  clear hT
  go_enter Tryz.func97, Tryz.ntmps97
  go_wp2_with fail
  go_ret
  exact ⟨ret_int (by simp [arity]), (Below.refl _ _).alloc (Nat.le_refl _) _⟩

set_option maxHeartbeats 1000000 in
theorem opc8 (v : Int) (s : ByteArray) (w : World) (hT : Tab w) : Calls Tryz.prog 97 #[.agg #[.int .i64 8, .int .i64 v, .string s]] w fun e w' => e = .returned (.int .i64 (arity ⟨8, v, s⟩)) ∧ Below w.heap.size w w' := by
  obtain ⟨c0, c1, c2, c3⟩ := hT.up8 (.cells #[.int .i64 8, .int .i64 v, .string s] 93)
  clear hT
  go_enter Tryz.func97, Tryz.ntmps97
  go_wp2_with fail
  go_ret
  exact ⟨ret_int (by simp [arity]), (Below.refl _ _).alloc (Nat.le_refl _) _⟩

set_option maxHeartbeats 1000000 in
theorem opc9 (v : Int) (s : ByteArray) (w : World) (hT : Tab w) : Calls Tryz.prog 97 #[.agg #[.int .i64 9, .int .i64 v, .string s]] w fun e w' => e = .returned (.int .i64 (arity ⟨9, v, s⟩)) ∧ Below w.heap.size w w' := by
  obtain ⟨c0, c1, c2, c3⟩ := hT.up9 (.cells #[.int .i64 9, .int .i64 v, .string s] 93)
  clear hT
  go_enter Tryz.func97, Tryz.ntmps97
  go_wp2_with fail
  go_ret
  exact ⟨ret_int (by simp [arity]), (Below.refl _ _).alloc (Nat.le_refl _) _⟩

theorem opc_any (n : Nd) (w : World) (hT : Tab w) (hk : 1 ≤ n.kind ∧ n.kind ≤ 9) : Calls Tryz.prog 97 #[.agg #[.int .i64 n.kind, .int .i64 n.val, .string n.name]] w fun e w' => e = .returned (.int .i64 (arity n)) ∧ Below w.heap.size w w' := by
  obtain ⟨k, v, s⟩ := n
  have h9 : k = 1 ∨ k = 2 ∨ k = 3 ∨ k = 4 ∨ k = 5 ∨ k = 6 ∨ k = 7 ∨ k = 8 ∨ k = 9 := by simp only at hk; omega
  rcases h9 with rfl | rfl | rfl | rfl | rfl | rfl | rfl | rfl | rfl
  · exact opc1 v s w hT
  · exact opc2 v s w hT
  · exact opc3 v s w hT
  · exact opc4 v s w hT
  · exact opc5 v s w hT
  · exact opc6 v s w hT
  · exact opc7 v s w hT
  · exact opc8 v s w hT
  · exact opc9 v s w hT

set_option maxHeartbeats 1000000 in
theorem vnode1 (v : Int) (s : ByteArray) (w : World) (hT : Tab w) : Calls Tryz.prog 143 #[.agg #[.int .i64 1, .int .i64 v, .string s]] w fun e w' => e = .returned (.bool (nodeB ⟨1, v, s⟩)) ∧ Below w.heap.size w w' := by
  obtain ⟨c0, c1, c2, c3⟩ := hT.up1 (.cells #[.int .i64 1, .int .i64 v, .string s] 93)
  clear hT
  by_cases h1 : v < (-2147483648)
  · go_enter Tryz.func143, Tryz.ntmps143
    go_wp2_with fail
    go_ret
    exact ⟨ret_bool (by simp [nodeB]; omega), ((Below.refl _ _).alloc (Nat.le_refl _) _).alloc (by simp) _⟩
  · by_cases h2 : 2147483647 < v
    · go_enter Tryz.func143, Tryz.ntmps143
      go_wp2_with fail
      go_ret
      exact ⟨ret_bool (by simp [nodeB]; omega), ((Below.refl _ _).alloc (Nat.le_refl _) _).alloc (by simp) _⟩
    · go_enter Tryz.func143, Tryz.ntmps143
      go_wp2_with fail
      refine (asked_no _ _).mono ?_
      rintro e w' ⟨rfl, hb⟩
      go_wp2_with fail
      go_ret
      refine ⟨ret_bool ?_, (((Below.refl _ _).alloc (Nat.le_refl _) _).alloc (by simp) _).trans (hb.mono (by simp; omega))⟩
      simp [nodeB]; omega

set_option maxHeartbeats 1000000 in
theorem vnode2 (v : Int) (s : ByteArray) (w : World) (hT : Tab w) : Calls Tryz.prog 143 #[.agg #[.int .i64 2, .int .i64 v, .string s]] w fun e w' => e = .returned (.bool (nodeB ⟨2, v, s⟩)) ∧ Below w.heap.size w w' := by
  obtain ⟨c0, c1, c2, c3⟩ := hT.up2 (.cells #[.int .i64 2, .int .i64 v, .string s] 93)
  clear hT
  by_cases h1 : v < 0
  · go_enter Tryz.func143, Tryz.ntmps143
    go_wp2_with fail
    go_ret
    exact ⟨ret_bool (by simp [nodeB]; omega), ((Below.refl _ _).alloc (Nat.le_refl _) _).alloc (by simp) _⟩
  · by_cases h2 : 0 < v
    · go_enter Tryz.func143, Tryz.ntmps143
      go_wp2_with fail
      go_ret
      exact ⟨ret_bool (by simp [nodeB]; omega), ((Below.refl _ _).alloc (Nat.le_refl _) _).alloc (by simp) _⟩
    · go_enter Tryz.func143, Tryz.ntmps143
      go_wp2_with fail
      refine (asked_yes _ _).mono ?_
      rintro e w' ⟨rfl, hb⟩
      go_wp2_with fail
      go_ret
      refine ⟨ret_bool ?_, (((Below.refl _ _).alloc (Nat.le_refl _) _).alloc (by simp) _).trans (hb.mono (by simp; omega))⟩
      simp [nodeB]; omega

set_option maxHeartbeats 1000000 in
theorem vnode3 (v : Int) (s : ByteArray) (w : World) (hT : Tab w) : Calls Tryz.prog 143 #[.agg #[.int .i64 3, .int .i64 v, .string s]] w fun e w' => e = .returned (.bool (nodeB ⟨3, v, s⟩)) ∧ Below w.heap.size w w' := by
  obtain ⟨c0, c1, c2, c3⟩ := hT.up3 (.cells #[.int .i64 3, .int .i64 v, .string s] 93)
  clear hT
  by_cases h1 : v < 0
  · go_enter Tryz.func143, Tryz.ntmps143
    go_wp2_with fail
    go_ret
    exact ⟨ret_bool (by simp [nodeB]; omega), ((Below.refl _ _).alloc (Nat.le_refl _) _).alloc (by simp) _⟩
  · by_cases h2 : 0 < v
    · go_enter Tryz.func143, Tryz.ntmps143
      go_wp2_with fail
      go_ret
      exact ⟨ret_bool (by simp [nodeB]; omega), ((Below.refl _ _).alloc (Nat.le_refl _) _).alloc (by simp) _⟩
    · go_enter Tryz.func143, Tryz.ntmps143
      go_wp2_with fail
      refine (asked_yes _ _).mono ?_
      rintro e w' ⟨rfl, hb⟩
      go_wp2_with fail
      go_ret
      refine ⟨ret_bool ?_, (((Below.refl _ _).alloc (Nat.le_refl _) _).alloc (by simp) _).trans (hb.mono (by simp; omega))⟩
      simp [nodeB]; omega

set_option maxHeartbeats 1000000 in
theorem vnode4 (v : Int) (s : ByteArray) (w : World) (hT : Tab w) : Calls Tryz.prog 143 #[.agg #[.int .i64 4, .int .i64 v, .string s]] w fun e w' => e = .returned (.bool (nodeB ⟨4, v, s⟩)) ∧ Below w.heap.size w w' := by
  obtain ⟨c0, c1, c2, c3⟩ := hT.up4 (.cells #[.int .i64 4, .int .i64 v, .string s] 93)
  clear hT
  by_cases h1 : v < 0
  · go_enter Tryz.func143, Tryz.ntmps143
    go_wp2_with fail
    go_ret
    exact ⟨ret_bool (by simp [nodeB]; omega), ((Below.refl _ _).alloc (Nat.le_refl _) _).alloc (by simp) _⟩
  · by_cases h2 : 6 < v
    · go_enter Tryz.func143, Tryz.ntmps143
      go_wp2_with fail
      go_ret
      exact ⟨ret_bool (by simp [nodeB]; omega), ((Below.refl _ _).alloc (Nat.le_refl _) _).alloc (by simp) _⟩
    · go_enter Tryz.func143, Tryz.ntmps143
      go_wp2_with fail
      refine (asked_yes _ _).mono ?_
      rintro e w' ⟨rfl, hb⟩
      go_wp2_with fail
      go_ret
      refine ⟨ret_bool ?_, (((Below.refl _ _).alloc (Nat.le_refl _) _).alloc (by simp) _).trans (hb.mono (by simp; omega))⟩
      simp [nodeB]; omega

set_option maxHeartbeats 1000000 in
theorem vnode5 (v : Int) (s : ByteArray) (w : World) (hT : Tab w) : Calls Tryz.prog 143 #[.agg #[.int .i64 5, .int .i64 v, .string s]] w fun e w' => e = .returned (.bool (nodeB ⟨5, v, s⟩)) ∧ Below w.heap.size w w' := by
  obtain ⟨c0, c1, c2, c3⟩ := hT.up5 (.cells #[.int .i64 5, .int .i64 v, .string s] 93)
  clear hT
  by_cases h1 : v < 0
  · go_enter Tryz.func143, Tryz.ntmps143
    go_wp2_with fail
    go_ret
    exact ⟨ret_bool (by simp [nodeB]; omega), ((Below.refl _ _).alloc (Nat.le_refl _) _).alloc (by simp) _⟩
  · by_cases h2 : 0 < v
    · go_enter Tryz.func143, Tryz.ntmps143
      go_wp2_with fail
      go_ret
      exact ⟨ret_bool (by simp [nodeB]; omega), ((Below.refl _ _).alloc (Nat.le_refl _) _).alloc (by simp) _⟩
    · go_enter Tryz.func143, Tryz.ntmps143
      go_wp2_with fail
      refine (asked_no _ _).mono ?_
      rintro e w' ⟨rfl, hb⟩
      go_wp2_with fail
      go_ret
      refine ⟨ret_bool ?_, (((Below.refl _ _).alloc (Nat.le_refl _) _).alloc (by simp) _).trans (hb.mono (by simp; omega))⟩
      simp [nodeB]; omega

set_option maxHeartbeats 1000000 in
theorem vnode6 (v : Int) (s : ByteArray) (w : World) (hT : Tab w) : Calls Tryz.prog 143 #[.agg #[.int .i64 6, .int .i64 v, .string s]] w fun e w' => e = .returned (.bool (nodeB ⟨6, v, s⟩)) ∧ Below w.heap.size w w' := by
  obtain ⟨c0, c1, c2, c3⟩ := hT.up6 (.cells #[.int .i64 6, .int .i64 v, .string s] 93)
  clear hT
  by_cases h1 : v < 0
  · go_enter Tryz.func143, Tryz.ntmps143
    go_wp2_with fail
    go_ret
    exact ⟨ret_bool (by simp [nodeB]; omega), ((Below.refl _ _).alloc (Nat.le_refl _) _).alloc (by simp) _⟩
  · by_cases h2 : 2 < v
    · go_enter Tryz.func143, Tryz.ntmps143
      go_wp2_with fail
      go_ret
      exact ⟨ret_bool (by simp [nodeB]; omega), ((Below.refl _ _).alloc (Nat.le_refl _) _).alloc (by simp) _⟩
    · go_enter Tryz.func143, Tryz.ntmps143
      go_wp2_with fail
      refine (asked_no _ _).mono ?_
      rintro e w' ⟨rfl, hb⟩
      go_wp2_with fail
      go_ret
      refine ⟨ret_bool ?_, (((Below.refl _ _).alloc (Nat.le_refl _) _).alloc (by simp) _).trans (hb.mono (by simp; omega))⟩
      simp [nodeB]; omega

set_option maxHeartbeats 1000000 in
theorem vnode7 (v : Int) (s : ByteArray) (w : World) (hT : Tab w) : Calls Tryz.prog 143 #[.agg #[.int .i64 7, .int .i64 v, .string s]] w fun e w' => e = .returned (.bool (nodeB ⟨7, v, s⟩)) ∧ Below w.heap.size w w' := by
  obtain ⟨c0, c1, c2, c3⟩ := hT.up7 (.cells #[.int .i64 7, .int .i64 v, .string s] 93)
  clear hT
  by_cases h1 : v < 0
  · go_enter Tryz.func143, Tryz.ntmps143
    go_wp2_with fail
    go_ret
    exact ⟨ret_bool (by simp [nodeB]; omega), ((Below.refl _ _).alloc (Nat.le_refl _) _).alloc (by simp) _⟩
  · by_cases h2 : 15 < v
    · go_enter Tryz.func143, Tryz.ntmps143
      go_wp2_with fail
      go_ret
      exact ⟨ret_bool (by simp [nodeB]; omega), ((Below.refl _ _).alloc (Nat.le_refl _) _).alloc (by simp) _⟩
    · go_enter Tryz.func143, Tryz.ntmps143
      go_wp2_with fail
      refine (asked_no _ _).mono ?_
      rintro e w' ⟨rfl, hb⟩
      go_wp2_with fail
      go_ret
      refine ⟨ret_bool ?_, (((Below.refl _ _).alloc (Nat.le_refl _) _).alloc (by simp) _).trans (hb.mono (by simp; omega))⟩
      simp [nodeB]; omega

set_option maxHeartbeats 1000000 in
theorem vnode8 (v : Int) (s : ByteArray) (w : World) (hT : Tab w) : Calls Tryz.prog 143 #[.agg #[.int .i64 8, .int .i64 v, .string s]] w fun e w' => e = .returned (.bool (nodeB ⟨8, v, s⟩)) ∧ Below w.heap.size w w' := by
  obtain ⟨c0, c1, c2, c3⟩ := hT.up8 (.cells #[.int .i64 8, .int .i64 v, .string s] 93)
  clear hT
  by_cases h1 : v < 0
  · go_enter Tryz.func143, Tryz.ntmps143
    go_wp2_with fail
    go_ret
    exact ⟨ret_bool (by simp [nodeB]; omega), ((Below.refl _ _).alloc (Nat.le_refl _) _).alloc (by simp) _⟩
  · by_cases h2 : 0 < v
    · go_enter Tryz.func143, Tryz.ntmps143
      go_wp2_with fail
      go_ret
      exact ⟨ret_bool (by simp [nodeB]; omega), ((Below.refl _ _).alloc (Nat.le_refl _) _).alloc (by simp) _⟩
    · go_enter Tryz.func143, Tryz.ntmps143
      go_wp2_with fail
      refine (asked_no _ _).mono ?_
      rintro e w' ⟨rfl, hb⟩
      go_wp2_with fail
      go_ret
      refine ⟨ret_bool ?_, (((Below.refl _ _).alloc (Nat.le_refl _) _).alloc (by simp) _).trans (hb.mono (by simp; omega))⟩
      simp [nodeB]; omega

set_option maxHeartbeats 1000000 in
theorem vnode9 (v : Int) (s : ByteArray) (w : World) (hT : Tab w) : Calls Tryz.prog 143 #[.agg #[.int .i64 9, .int .i64 v, .string s]] w fun e w' => e = .returned (.bool (nodeB ⟨9, v, s⟩)) ∧ Below w.heap.size w w' := by
  obtain ⟨c0, c1, c2, c3⟩ := hT.up9 (.cells #[.int .i64 9, .int .i64 v, .string s] 93)
  clear hT
  by_cases h1 : v < 0
  · go_enter Tryz.func143, Tryz.ntmps143
    go_wp2_with fail
    go_ret
    exact ⟨ret_bool (by simp [nodeB]; omega), ((Below.refl _ _).alloc (Nat.le_refl _) _).alloc (by simp) _⟩
  · by_cases h2 : 0 < v
    · go_enter Tryz.func143, Tryz.ntmps143
      go_wp2_with fail
      go_ret
      exact ⟨ret_bool (by simp [nodeB]; omega), ((Below.refl _ _).alloc (Nat.le_refl _) _).alloc (by simp) _⟩
    · go_enter Tryz.func143, Tryz.ntmps143
      go_wp2_with fail
      refine (asked_no _ _).mono ?_
      rintro e w' ⟨rfl, hb⟩
      go_wp2_with fail
      go_ret
      refine ⟨ret_bool ?_, (((Below.refl _ _).alloc (Nat.le_refl _) _).alloc (by simp) _).trans (hb.mono (by simp; omega))⟩
      simp [nodeB]; omega

set_option maxHeartbeats 1000000 in
theorem vnodeX (k v : Int) (s : ByteArray) (w : World) (hk : k < 1 ∨ 9 < k) : Calls Tryz.prog 143 #[.agg #[.int .i64 k, .int .i64 v, .string s]] w fun e w' => e = .returned (.bool (nodeB ⟨k, v, s⟩)) ∧ Below w.heap.size w w' := by
  have hn : nodeB ⟨k, v, s⟩ = false := by
    simp only [nodeB]
    rw [if_neg (by omega), if_neg (by omega), if_neg (by omega), if_neg (by omega), if_neg (by omega), if_neg (by omega)]
  rw [hn]
  clear hn
  rcases hk with hk | hk
  · go_enter Tryz.func143, Tryz.ntmps143
    go_wp2_with fail
    go_ret
    exact ⟨rfl, (Below.refl _ _).alloc (Nat.le_refl _) _⟩
  · have h' : 1 ≤ k := by omega
    go_enter Tryz.func143, Tryz.ntmps143
    go_wp2_with fail
    go_ret
    exact ⟨rfl, (Below.refl _ _).alloc (Nat.le_refl _) _⟩

theorem vnode_any (n : Nd) (w : World) (hT : Tab w) : Calls Tryz.prog 143 #[.agg #[.int .i64 n.kind, .int .i64 n.val, .string n.name]] w fun e w' => e = .returned (.bool (nodeB n)) ∧ Below w.heap.size w w' := by
  obtain ⟨k, v, s⟩ := n
  by_cases hk : k < 1 ∨ 9 < k
  · exact vnodeX k v s w hk
  have h9 : k = 1 ∨ k = 2 ∨ k = 3 ∨ k = 4 ∨ k = 5 ∨ k = 6 ∨ k = 7 ∨ k = 8 ∨ k = 9 := by omega
  rcases h9 with rfl | rfl | rfl | rfl | rfl | rfl | rfl | rfl | rfl
  · exact vnode1 v s w hT
  · exact vnode2 v s w hT
  · exact vnode3 v s w hT
  · exact vnode4 v s w hT
  · exact vnode5 v s w hT
  · exact vnode6 v s w hT
  · exact vnode7 v s w hT
  · exact vnode8 v s w hT
  · exact vnode9 v s w hT

end Go.Proofs.YtefnijmgdcfhiaaGreatDoor

namespace Go.Proofs.YtefnijmgdcfhiaaGreatDoor
open Go.RowKit
set_option linter.unusedVariables false
set_option linter.unusedSimpArgs false

def NodesC (w : World) (b off : Nat) (ns : List Nd) : Prop := ∀ j (h : j < ns.length),
  w.cell? ⟨b, off + j * 3, none⟩ = some (.int .i64 ns[j].kind) ∧ w.cell? ⟨b, off + j * 3 + 1, none⟩ = some (.int .i64 ns[j].val) ∧ w.cell? ⟨b, off + j * 3 + 2, none⟩ = some (.string ns[j].name)

theorem NodesC.below {w w' : World} {b off : Nat} {ns : List Nd} (h : NodesC w b off ns) (hb : Below w.heap.size w w') : NodesC w' b off ns := by
  intro j hj
  obtain ⟨c0, c1, c2⟩ := h j hj
  have hlt := World.block_lt_of_cell? _ _ c0
  exact ⟨(hb.cell hlt).trans c0, (hb.cell (p := ⟨b, off + j * 3 + 1, none⟩) hlt).trans c1, (hb.cell (p := ⟨b, off + j * 3 + 2, none⟩) hlt).trans c2⟩

/-- A slice of nodes. -/
def Nodes (w : World) (v : Value) (ns : List Nd) : Prop := ∃ a cap, v = .slice a ns.length cap ∧ ns.length ≤ cap ∧ cap ≤ 9223372036854775807 ∧ (0 < ns.length → ∃ b off, a = some ⟨b, off, none⟩ ∧ NodesC w b off ns)
theorem Nodes.below {w w' : World} {v : Value} {ns : List Nd} (h : Nodes w v ns) (hb : Below w.heap.size w w') : Nodes w' v ns := by
  obtain ⟨a, cap, rfl, hl, hm, h⟩ := h
  refine ⟨a, cap, rfl, hl, hm, fun h0 => ?_⟩
  obtain ⟨b, off, rfl, hc⟩ := h h0
  exact ⟨b, off, rfl, hc.below hb⟩

theorem box3 {w w' : World} {t : TypeId} {x y z : Value} (h : Below (w.heap.size + 1) (w.alloc (.cells #[x, y, z] t)) w') :
    w'.cell? ⟨w.heap.size, 0, none⟩ = some x ∧ w'.cell? ⟨w.heap.size, 1, none⟩ = some y ∧ w'.cell? ⟨w.heap.size, 2, none⟩ = some z := by
  refine ⟨?_, ?_, ?_⟩ <;> (rw [h.cell (by simp)]; simp)

set_option maxHeartbeats 1000000 in
theorem one_any (v : Value) (ns : List Nd) (w : World) (hT : Tab w) (hl : ns.length ≤ 1048576) (hc : Nodes w v ns) :
    Calls Tryz.prog 130 #[v] w fun e w' => e = .returned (.bool (oneB ns)) ∧ Below w.heap.size w w' := by
  obtain ⟨a, cap, rfl, hcl, hcm, hc⟩ := hc
  have HC : Hid (0 < ns.length → ∃ b off, a = some ⟨b, off, none⟩ ∧ NodesC w b off ns) := hc
  clear hc
  go_enter Tryz.func130, Tryz.ntmps130
  go_wp2_with fail
  go_loopw [3, 8] (fun r i wr => ∃ (k : Nat) (q : Int), k ≤ ns.length ∧ i = .int .i64 k ∧ r = .int .i64 q ∧ wholeTo (ns.take k) 0 = some q ∧ Below w.heap.size w wr) (fun _ i _ => ns.length - (intOf i).toNat)
  case atStart => exact ⟨0, 0, Nat.zero_le _, rfl, rfl, rfl, Below.refl _ _⟩
  case round =>
    obtain ⟨k, q, hk, rfl, rfl, hq, hB⟩ := hrel
    have HQ : Hid (wholeTo (ns.take k) 0 = some q) := hq
    have hqb := wholeTo_bd _ _ _ hq (Int.le_refl 0)
    have hql : q ≤ 1048576 := by have := hqb.2; simp at this; omega
    have hq0 := hqb.1
    clear hq hqb
    by_cases hlt : k < ns.length
    · obtain ⟨b, off, rfl, hc⟩ := HC.out (by omega)
      obtain ⟨d0, d1, d2⟩ := (hc.below hB) k hlt
      have HT : Hid (Tab wr) := hT.below hT.size hB
      have hsz := hT.size
      have HS : Hid _ := wholeTo_step ns k q hlt HQ.out
      clear hc hT HC
      generalize hn : ns[k] = n at d0 d1 d2 HS
      clear hn
      go_wp2_with fail
      refine (vnode_any n _ (HT.out.below HT.out.size ((Below.refl _ _).alloc (Nat.le_refl _) _))).mono ?_
      rintro e w1 ⟨rfl, hb1⟩
      simp only [World.size_alloc] at hb1
      have hB1 := hB.trans ((((Below.refl _ _).alloc (Nat.le_refl _) _).trans (hb1.mono (by omega))).mono hB.size)
      cases hv : nodeB n
      · go_wp2_with fail
        go_ret
        refine ⟨ret_bool (oneB_none ns (k + 1) ?_).symm, hB1⟩
        rw [HS.out, if_neg (by simp [hv])]
      · obtain ⟨e0, e1, e2⟩ := box3 hb1
        have hT1 : Hid (Tab w1) := HT.out.below HT.out.size (((Below.refl _ _).alloc (Nat.le_refl _) _).trans (hb1.mono (by omega)))
        have hkb := kind_good hv
        have hab := arity_good hv
        go_wp2_with fail
        refine (opc_any n _ hT1.out hkb).mono ?_
        rintro e w2 ⟨rfl, hb2⟩
        have hb2' := hb1.trans (hb2.mono (by have := hb1.size; simp at this; omega))
        have hB2 := hB.trans ((((Below.refl _ _).alloc (Nat.le_refl _) _).trans (hb2'.mono (by omega))).mono hB.size)
        obtain ⟨f0, f1, f2⟩ := box3 hb2'
        have hT2 : Hid (Tab w2) := hT1.out.below hT1.out.size hb2
        clear e0 e1 e2 d0 d1 d2
        by_cases ha : q < arity n
        · go_wp2_with fail
          go_ret
          refine ⟨ret_bool (oneB_none ns (k + 1) ?_).symm, hB2⟩
          rw [HS.out, if_neg (by omega)]
        · go_wp2_with fail
          refine (opc_any n _ hT2.out hkb).mono ?_
          rintro e w3 ⟨rfl, hb3⟩
          have hB3 := hB2.trans (hb3.mono hB2.size)
          clear f0 f1 f2
          go_wp2_with fail
          go_roundw
          case rel => exact ⟨k + 1, q + 1 - arity n, by omega, by go_num, by rw [show q + (1 - arity n) = q + 1 - arity n by omega], by rw [HS.out, if_pos ⟨hv, by omega⟩], hB3⟩
          case measure => simp [intOf]; omega
    · go_wp2_with fail
      go_ret
      obtain rfl : k = ns.length := by omega
      exact ⟨ret_bool (oneB_some ns q HQ.out).symm, hB⟩

end Go.Proofs.YtefnijmgdcfhiaaGreatDoor
