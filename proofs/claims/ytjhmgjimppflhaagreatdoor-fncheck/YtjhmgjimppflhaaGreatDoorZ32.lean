import Derived.Test.YtjhmgjimppflhaaGreatDoorZ18
namespace Go.Proofs.YtjhmgjimppflhaaGreatDoor
set_option linter.unusedVariables false
set_option linter.unusedSimpArgs false
set_option maxRecDepth 100000
set_option maxHeartbeats 16000000
section
open Go.RowKit
theorem ssrc_cell {w : World} {b : Nat} {x : ByteArray} (h : w.cell? ⟨b, 0, none⟩ = some (.string x)) : SSrc w (.slice (some ⟨b, 0, none⟩) 1 1) [x] := by
  refine ⟨_, 1, rfl, (fun h => by cases h), fun ad had j u hj => ?_⟩
  obtain rfl := Option.some.inj had
  have hl : j = 0 := by
    have := (List.getElem?_eq_some_iff.1 hj).1
    simp at this
    omega
  subst hl
  simp at hj
  rw [addr_addK, ← hj]
  exact h
/-- Two new blocks of a world: an empty one and one that holds a text, in either order. -/
theorem appA (W : World) (v : Value) (us : List ByteArray) (h : Strs W v us) : SRow W.heap.size (W.drew.alloc (.cells #[] 9)) (.slice (some ⟨W.heap.size, 0, none⟩) 0 0) [] ∧ SSrc (W.drew.alloc (.cells #[] 9)) v us ∧ Below W.heap.size W (W.drew.alloc (.cells #[] 9)) := by
  have hb : Below W.heap.size W (W.drew.alloc (.cells #[] 9)) := ((Below.refl W.heap.size W).drew).alloc (Nat.le_refl _) _
  exact ⟨srow_lit W.drew _ (Nat.le_refl _), (h.below hb).src, hb⟩
theorem appB (W : World) (v : Value) (us : List ByteArray) (x : ByteArray) (h : Strs W v us) : SRow W.heap.size ((W.drew.alloc (.cells #[] 9)).alloc (.cells #[.string x] 9)) (.slice (some ⟨W.heap.size, 0, none⟩) 0 0) [] ∧ SSrc ((W.drew.alloc (.cells #[] 9)).alloc (.cells #[.string x] 9)) v us ∧ Below W.heap.size W ((W.drew.alloc (.cells #[] 9)).alloc (.cells #[.string x] 9)) ∧ ((W.drew.alloc (.cells #[] 9)).alloc (.cells #[.string x] 9)).cell? ⟨W.heap.size + 1, 0, none⟩ = some (.string x) := by
  have hb1 : Below W.heap.size W (W.drew.alloc (.cells #[] 9)) := ((Below.refl W.heap.size W).drew).alloc (Nat.le_refl _) _
  have hb : Below W.heap.size W ((W.drew.alloc (.cells #[] 9)).alloc (.cells #[.string x] 9)) := hb1.alloc hb1.size _
  exact ⟨(srow_lit W.drew _ (Nat.le_refl _)).below ((Below.refl _ _).alloc (Nat.le_refl _) _), (h.below hb).src, hb, (World.cell?_alloc_at _ _ _ _ (by simp)).trans rfl⟩
theorem appC (W : World) (v : Value) (us : List ByteArray) (x : ByteArray) (h : Strs W v us) : SRow W.heap.size ((W.drew.alloc (.cells #[.string x] 9)).alloc (.cells #[] 9)) (.slice (some ⟨W.heap.size + 1, 0, none⟩) 0 0) [] ∧ SSrc ((W.drew.alloc (.cells #[.string x] 9)).alloc (.cells #[] 9)) v us ∧ Below W.heap.size W ((W.drew.alloc (.cells #[.string x] 9)).alloc (.cells #[] 9)) ∧ ((W.drew.alloc (.cells #[.string x] 9)).alloc (.cells #[] 9)).cell? ⟨W.heap.size, 0, none⟩ = some (.string x) := by
  have hb1 : Below W.heap.size W (W.drew.alloc (.cells #[.string x] 9)) := ((Below.refl W.heap.size W).drew).alloc (Nat.le_refl _) _
  have hb : Below W.heap.size W ((W.drew.alloc (.cells #[.string x] 9)).alloc (.cells #[] 9)) := hb1.alloc hb1.size _
  have h1 := srow_lit (W.drew.alloc (.cells #[.string x] 9)) W.heap.size (by simp)
  have e : (W.drew.alloc (.cells #[.string x] 9)).heap.size = W.heap.size + 1 := by simp
  rw [e] at h1
  refine ⟨h1, (h.below hb).src, hb, ?_⟩
  rw [World.cell?_alloc_lt _ _ ⟨W.heap.size, 0, none⟩ (by simp)]
  exact (World.cell?_alloc_at _ _ _ _ (by simp)).trans rfl
/-- Behind an append into a row of its own. -/
theorem appN {W W1 w1 : World} {v : Value} {xs : List ByteArray} (hb : Below W.heap.size W W1) (hr : SRow W.heap.size W1 v xs) (hg : W1.grownBy w1 v.ownBlock) : Below W.heap.size W w1 := hb.grown hg hb.size (fun j hj => (World.ownsRow.lt hr j hj).1)
end
end Go.Proofs.YtjhmgjimppflhaaGreatDoor
