import Derived.Test.YtbmcnjjhgjphmaaDoorFF
import Derived.Test.YtbmcnjjhgjphmaaDoorFD
import Derived.RegionTactic
import Derived.BigQuiet
namespace Go.Proofs.YtbmcnjjhgjphmaaDoor
open Go.RowKit
set_option linter.unusedVariables false
set_option linter.unusedSimpArgs false

/-- What nodeOf makes. -/
def nodeV (n : Nd) (ar : Value) (vs : Nat → Value) : Value :=
  if n.kind = 1 then .iface 64 (.agg #[.int .i64 n.val])
  else if n.kind = 2 then .iface 84 (.agg #[.string n.name])
  else if n.kind = 3 then .iface 86 (.agg #[.string n.name, vs 0])
  else if n.kind = 4 then .iface 88 (.agg #[.string n.name, ar])
  else if n.kind = 6 then .iface 62 (.agg #[.int .i64 n.val, vs 0])
  else if n.kind = 7 then .iface 67 (.agg #[.int .i64 n.val, vs 0, vs 1])
  else if n.kind = 8 then .iface 70 (.agg #[vs 0, vs 1])
  else if n.kind = 9 then .iface 72 (.agg #[vs 0, vs 1])
  else .iface 91 (.agg #[])

set_option maxRecDepth 100000 in
set_option maxHeartbeats 4000000 in
theorem nodeOf_any (n : Nd) (hn : nodeB n = true) (A : Nat) (hA : arity n = A) (S : Nat → Prop) (ar : Value) (vs : Nat → Value) (w : World) (ha : Args w S ar A vs) (hI : ∀ i, i < A → ∃ t x, vs i = .iface t x) :
    Calls Tryd.prog 36 #[.agg #[.int .i64 n.kind, .int .i64 n.val, .string n.name], ar] w fun e w' => e = .returned (nodeV n ar vs) ∧ Below w.heap.size w w' := by
  have hkk := kind_good hn
  obtain ⟨nk, nv, nm⟩ := n
  obtain ⟨a, cap, rfl, hc1, hc2, hc⟩ := ha
  simp only at hkk ⊢
  have hk : nk = 1 ∨ nk = 2 ∨ nk = 3 ∨ nk = 4 ∨ nk = 5 ∨ nk = 6 ∨ nk = 7 ∨ nk = 8 ∨ nk = 9 := by omega
  have bx : ∀ o, Below w.heap.size w (w.alloc o) := fun o => (Below.refl _ _).alloc (Nat.le_refl _) o
  rcases hk with rfl | rfl | rfl | rfl | rfl | rfl | rfl | rfl | rfl
  · go_enter Tryd.func36, Tryd.ntmps36
    go_wp2_with fail
    go_ret
    exact ⟨rfl, bx _⟩
  · go_enter Tryd.func36, Tryd.ntmps36
    go_wp2_with fail
    go_ret
    exact ⟨rfl, bx _⟩
  · have e1 : A = 1 := by simp [arity] at hA; omega
    subst e1
    obtain ⟨B, rfl, -, hcc⟩ := hc (by omega)
    have hlt := World.block_lt_of_cell? _ _ (hcc 0 (by omega))
    have q0 : ∀ o, (w.alloc o).cell? ⟨B, 0, none⟩ = some (vs 0) := fun o => ((bx o).cell (p := ⟨B, 0, none⟩) hlt).trans (hcc 0 (by omega))
    obtain ⟨t0, x0, h0⟩ := hI 0 (by omega)
    have HE : Hid (nodeV ⟨3, nv, nm⟩ (.slice (some ⟨B, 0, none⟩) 1 cap) vs = .iface 86 (.agg #[.string nm, vs 0])) := rfl
    rw [HE.out]
    rw [h0] at q0 ⊢
    clear hc hcc hI
    go_enter Tryd.func36, Tryd.ntmps36
    go_wp2_with fail
    go_quiet (fail)
    go_wp2_with fail
    go_ret
    exact ⟨rfl, below_drewN (bx _) _⟩
  · have HE : Hid (nodeV ⟨4, nv, nm⟩ (.slice a A cap) vs = .iface 88 (.agg #[.string nm, .slice a A cap])) := rfl
    rw [HE.out]
    clear hc hI
    go_enter Tryd.func36, Tryd.ntmps36
    go_wp2_with fail
    go_ret
    exact ⟨rfl, bx _⟩
  · go_enter Tryd.func36, Tryd.ntmps36
    go_wp2_with fail
    go_ret
    exact ⟨rfl, bx _⟩
  · have e1 : A = 1 := by simp [arity] at hA; omega
    subst e1
    obtain ⟨B, rfl, -, hcc⟩ := hc (by omega)
    have hlt := World.block_lt_of_cell? _ _ (hcc 0 (by omega))
    have q0 : ∀ o, (w.alloc o).cell? ⟨B, 0, none⟩ = some (vs 0) := fun o => ((bx o).cell (p := ⟨B, 0, none⟩) hlt).trans (hcc 0 (by omega))
    obtain ⟨t0, x0, h0⟩ := hI 0 (by omega)
    have HE : Hid (nodeV ⟨6, nv, nm⟩ (.slice (some ⟨B, 0, none⟩) 1 cap) vs = .iface 62 (.agg #[.int .i64 nv, vs 0])) := rfl
    rw [HE.out]
    rw [h0] at q0 ⊢
    clear hc hcc hI
    go_enter Tryd.func36, Tryd.ntmps36
    go_wp2_with fail
    go_quiet (fail)
    go_wp2_with fail
    go_ret
    exact ⟨rfl, below_drewN (bx _) _⟩
  all_goals
    have e1 : A = 2 := by simp [arity] at hA; omega
    subst e1
    obtain ⟨B, rfl, -, hcc⟩ := hc (by omega)
    have hlt := World.block_lt_of_cell? _ _ (hcc 0 (by omega))
    have q0 : ∀ o, (w.alloc o).cell? ⟨B, 0, none⟩ = some (vs 0) := fun o => ((bx o).cell (p := ⟨B, 0, none⟩) hlt).trans (hcc 0 (by omega))
    have q1 : ∀ o, (w.alloc o).cell? ⟨B, 1, none⟩ = some (vs 1) := fun o => ((bx o).cell (p := ⟨B, 1, none⟩) hlt).trans (hcc 1 (by omega))
    obtain ⟨t0, x0, h0⟩ := hI 0 (by omega)
    obtain ⟨t1, x1, h1⟩ := hI 1 (by omega)
    clear hc hcc hI
  · have HE : Hid (nodeV ⟨7, nv, nm⟩ (.slice (some ⟨B, 0, none⟩) 2 cap) vs = .iface 67 (.agg #[.int .i64 nv, vs 0, vs 1])) := rfl
    rw [HE.out]
    rw [h0] at q0
    rw [h1] at q1
    rw [h0, h1]
    go_enter Tryd.func36, Tryd.ntmps36
    go_wp2_with fail
    go_quiet (fail)
    go_wp2_with fail
    go_ret
    exact ⟨rfl, below_drewN (bx _) _⟩
  · have HE : Hid (nodeV ⟨8, nv, nm⟩ (.slice (some ⟨B, 0, none⟩) 2 cap) vs = .iface 70 (.agg #[vs 0, vs 1])) := rfl
    rw [HE.out]
    rw [h0] at q0
    rw [h1] at q1
    rw [h0, h1]
    go_enter Tryd.func36, Tryd.ntmps36
    go_wp2_with fail
    go_quiet (fail)
    go_wp2_with fail
    go_ret
    exact ⟨rfl, below_drewN (bx _) _⟩
  · have HE : Hid (nodeV ⟨9, nv, nm⟩ (.slice (some ⟨B, 0, none⟩) 2 cap) vs = .iface 72 (.agg #[vs 0, vs 1])) := rfl
    rw [HE.out]
    rw [h0] at q0
    rw [h1] at q1
    rw [h0, h1]
    go_enter Tryd.func36, Tryd.ntmps36
    go_wp2_with fail
    go_quiet (fail)
    go_wp2_with fail
    go_ret
    exact ⟨rfl, below_drewN (bx _) _⟩

end Go.Proofs.YtbmcnjjhgjphmaaDoor
