import Derived.Test.YtijgcjeijcidfaaDoorV3
import Derived.Deep.RegionWith
import Derived.WalkSmall
namespace Go.Proofs.YtijgcjeijcidfaaDoor
open Go.RowKit
set_option linter.unusedVariables false
set_option linter.unusedSimpArgs false

theorem ret_int {k : IntKind} {a b : Int} (h : a = b) : Ending.returned (.int k a) = .returned (.int k b) := by rw [h]

set_option maxHeartbeats 400000 in
theorem in_any (v lo hi : Int) (w : World) : Calls Tryd.prog 12 #[.int .i64 v, .int .i64 lo, .int .i64 hi] w fun e w' => e = .returned (.bool (decide (lo ≤ v ∧ v ≤ hi))) ∧ w' = w := by
  go_enter Tryd.func12, Tryd.ntmps12
  go_wp2
  all_goals go_ret
  all_goals (refine ⟨ret_bool ?_, rfl⟩; apply Bool.eq_iff_iff.2; simp <;> omega)

set_option maxHeartbeats 400000 in
theorem wrap_any (v : Int) (w : World) : Calls Tryd.prog 58 #[.int .i64 v] w fun e w' => e = .returned (.int .i64 (wrap32 v)) ∧ w' = w := by
  go_enter Tryd.func58, Tryd.ntmps58
  go_wp2
  go_ret
  exact ⟨ret_int (by unfold wrap64 wrap32; omega), rfl⟩

theorem wrap32_eq (v : Int) : v = wrap32 v ↔ -2147483648 ≤ v ∧ v ≤ 2147483647 := by
  unfold wrap32; omega

set_option maxHeartbeats 400000 in
theorem arity_any (k v : Int) (s : ByteArray) (w : World) : Calls Tryd.prog 59 #[.agg #[.int .i64 k, .int .i64 v, .string s]] w fun e w' => e = .returned (.int .i64 (arity ⟨k, v, s⟩)) ∧ Below w.heap.size w w' := by
  go_enter Tryd.func59, Tryd.ntmps59
  go_wp2
  all_goals go_ret
  all_goals (refine ⟨ret_int ?_, (Below.refl _ _).alloc (Nat.le_refl _) _⟩; simp only [beq_iff_eq, beq_eq_false_iff_ne, ne_eq] at *; (try subst k); first | (exfalso; omega) | (simp [arity, *]; done))

set_option maxHeartbeats 1000000 in
theorem gnode1 (v : Int) (s : ByteArray) (w : World) : Calls Tryd.prog 47 #[.agg #[.int .i64 1, .int .i64 v, .string s]] w fun e w' => e = .returned (.bool (nodeB ⟨1, v, s⟩)) ∧ Below w.heap.size w w' := by
  cases h : (v == wrap32 v)
  · go_enter Tryd.func47, Tryd.ntmps47
    go_wp2_with fail
    go_quiet ((go_at_call 58; exact Calls.quiet_of_same (wrap_any _ _)))
    go_wp2_with fail
    go_ret
    exact ⟨ret_bool (by have : ¬ (v = wrap32 v) := by simpa using h
                        rw [wrap32_eq] at this
                        simp [nodeB]; omega), below_drewN ((Below.refl _ _).alloc (Nat.le_refl _) _) _⟩
  · go_enter Tryd.func47, Tryd.ntmps47
    go_wp2_with fail
    go_quiet ((go_at_call 58; exact Calls.quiet_of_same (wrap_any _ _)))
    go_wp2_with fail
    go_ret
    exact ⟨ret_bool (by have : (v = wrap32 v) := by simpa using h
                        rw [wrap32_eq] at this
                        simp [nodeB, this]), below_drewN ((Below.refl _ _).alloc (Nat.le_refl _) _) _⟩

set_option maxHeartbeats 1000000 in
theorem gnode23 (k v : Int) (hk : k = 2 ∨ k = 3) (s : ByteArray) (w : World) : Calls Tryd.prog 47 #[.agg #[.int .i64 k, .int .i64 v, .string s]] w fun e w' => e = .returned (.bool (nodeB ⟨k, v, s⟩)) ∧ Below w.heap.size w w' := by
  by_cases h : v = 0
  · subst h
    rcases hk with rfl | rfl
    all_goals
      go_enter Tryd.func47, Tryd.ntmps47
      go_wp2_with (go_at_call 11; refine (name_any _ _).mono ?_; rintro e w' ⟨rfl, rfl⟩)
      go_ret
      exact ⟨ret_bool (by simp [nodeB]), (Below.refl _ _).alloc (Nat.le_refl _) _⟩
  · have h' : (v == 0) = false := by simpa using h
    rcases hk with rfl | rfl
    all_goals
      go_enter Tryd.func47, Tryd.ntmps47
      go_wp2_with fail
      go_ret
      exact ⟨ret_bool (by simp [nodeB, h]), (Below.refl _ _).alloc (Nat.le_refl _) _⟩

set_option maxHeartbeats 1000000 in
theorem gnode4 (v : Int) (s : ByteArray) (w : World) : Calls Tryd.prog 47 #[.agg #[.int .i64 4, .int .i64 v, .string s]] w fun e w' => e = .returned (.bool (nodeB ⟨4, v, s⟩)) ∧ Below w.heap.size w w' := by
  cases h : decide (0 ≤ v ∧ v ≤ 6)
  all_goals
    go_enter Tryd.func47, Tryd.ntmps47
    go_wp2_with (first | (go_at_call 12; refine (in_any _ _ _ _).mono ?_; rintro e w' ⟨rfl, rfl⟩; rw [h]) | (go_at_call 11; refine (name_any _ _).mono ?_; rintro e w' ⟨rfl, rfl⟩))
    go_ret
    exact ⟨ret_bool (by simp only [nodeB]; simp [h]), (Below.refl _ _).alloc (Nat.le_refl _) _⟩

set_option maxHeartbeats 1000000 in
theorem gnode6 (v : Int) (s : ByteArray) (w : World) : Calls Tryd.prog 47 #[.agg #[.int .i64 6, .int .i64 v, .string s]] w fun e w' => e = .returned (.bool (nodeB ⟨6, v, s⟩)) ∧ Below w.heap.size w w' := by
  cases h : decide (0 ≤ v ∧ v ≤ 2)
  all_goals
    go_enter Tryd.func47, Tryd.ntmps47
    go_wp2_with (first | (go_at_call 12; refine (in_any _ _ _ _).mono ?_; rintro e w' ⟨rfl, rfl⟩; rw [h]))
    go_ret
    exact ⟨ret_bool (by simp only [nodeB]; simp [h]), (Below.refl _ _).alloc (Nat.le_refl _) _⟩

set_option maxHeartbeats 1000000 in
theorem gnode7 (v : Int) (s : ByteArray) (w : World) : Calls Tryd.prog 47 #[.agg #[.int .i64 7, .int .i64 v, .string s]] w fun e w' => e = .returned (.bool (nodeB ⟨7, v, s⟩)) ∧ Below w.heap.size w w' := by
  cases h : decide (0 ≤ v ∧ v ≤ 15)
  all_goals
    go_enter Tryd.func47, Tryd.ntmps47
    go_wp2_with (first | (go_at_call 12; refine (in_any _ _ _ _).mono ?_; rintro e w' ⟨rfl, rfl⟩; rw [h]))
    go_ret
    exact ⟨ret_bool (by simp only [nodeB]; simp [h]), (Below.refl _ _).alloc (Nat.le_refl _) _⟩

set_option maxHeartbeats 1000000 in
theorem gnode589 (k v : Int) (hk : k = 5 ∨ k = 8 ∨ k = 9) (s : ByteArray) (w : World) : Calls Tryd.prog 47 #[.agg #[.int .i64 k, .int .i64 v, .string s]] w fun e w' => e = .returned (.bool (nodeB ⟨k, v, s⟩)) ∧ Below w.heap.size w w' := by
  by_cases h : v = 0
  · subst h
    rcases hk with rfl | rfl | rfl
    all_goals
      go_enter Tryd.func47, Tryd.ntmps47
      go_wp2_with fail
      go_ret
      exact ⟨ret_bool (by simp [nodeB]), (Below.refl _ _).alloc (Nat.le_refl _) _⟩
  · have h' : (v == 0) = false := by simpa using h
    rcases hk with rfl | rfl | rfl
    all_goals
      go_enter Tryd.func47, Tryd.ntmps47
      go_wp2_with fail
      go_ret
      exact ⟨ret_bool (by simp [nodeB, h]), (Below.refl _ _).alloc (Nat.le_refl _) _⟩

set_option maxHeartbeats 1000000 in
theorem gnodeX (k v : Int) (hk : k < 1 ∨ 9 < k) (s : ByteArray) (w : World) : Calls Tryd.prog 47 #[.agg #[.int .i64 k, .int .i64 v, .string s]] w fun e w' => e = .returned (.bool (nodeB ⟨k, v, s⟩)) ∧ Below w.heap.size w w' := by
  have h1 : (k == 1) = false := by simp; omega
  have h2 : (k == 2) = false := by simp; omega
  have h3 : (k == 3) = false := by simp; omega
  have h4 : (k == 4) = false := by simp; omega
  have h5 : (k == 5) = false := by simp; omega
  have h6 : (k == 6) = false := by simp; omega
  have h7 : (k == 7) = false := by simp; omega
  have h8 : (k == 8) = false := by simp; omega
  have h9 : (k == 9) = false := by simp; omega
  have hn : nodeB ⟨k, v, s⟩ = false := by
    simp at h1 h2 h3 h4 h5 h6 h7 h8 h9
    simp [nodeB, h1, h2, h3, h4, h5, h6, h7, h8, h9]
  rw [hn]
  clear hk hn
  go_enter Tryd.func47, Tryd.ntmps47
  go_wp2_with fail
  go_ret
  exact ⟨rfl, (Below.refl _ _).alloc (Nat.le_refl _) _⟩

theorem gnode_any (n : Nd) (w : World) : Calls Tryd.prog 47 #[.agg #[.int .i64 n.kind, .int .i64 n.val, .string n.name]] w fun e w' => e = .returned (.bool (nodeB n)) ∧ Below w.heap.size w w' := by
  obtain ⟨k, v, s⟩ := n
  by_cases hx : k < 1 ∨ 9 < k
  · exact gnodeX k v hx s w
  · have : k = 1 ∨ (k = 2 ∨ k = 3) ∨ k = 4 ∨ k = 6 ∨ k = 7 ∨ (k = 5 ∨ k = 8 ∨ k = 9) := by omega
    rcases this with rfl | h | rfl | rfl | rfl | h
    · exact gnode1 v s w
    · exact gnode23 k v h s w
    · exact gnode4 v s w
    · exact gnode6 v s w
    · exact gnode7 v s w
    · exact gnode589 k v h s w

end Go.Proofs.YtijgcjeijcidfaaDoor
