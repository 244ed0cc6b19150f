import Derived.Test.YtmbfkmmfneeleaaGreatDoorPCK3
import Derived.Test.YtmbfkmmfneeleaaGreatDoorPCKL
import Derived.Test.YtmbfkmmfneeleaaGreatDoorPVB
namespace Go.Proofs.YtmbfkmmfneeleaaGreatDoor
open Go.RowKit
set_option linter.unusedVariables false
set_option linter.unusedSimpArgs false

theorem ssrc_cell {w : World} {b : Nat} {x : ByteArray} (h : w.cell? ⟨b, 0, none⟩ = some (.string x)) : SSrc w (.slice (some ⟨b, 0, none⟩) 1 1) [x] := by
  refine ⟨_, 1, rfl, (fun h => by cases h), fun ad had j u hj => ?_⟩
  obtain rfl := Option.some.inj had
  have hl : j = 0 := by
    have := (List.getElem?_eq_some_iff.1 hj).1
    simp at this
    omega
  subst hl
  simp at hj
  rw [addr_addK, ← hj]
  exact h
/-- Two new blocks of a world: an empty one and one that holds a text, in either order. -/
theorem appA (W : World) (v : Value) (us : List ByteArray) (h : Strs W v us) : SRow W.heap.size (W.drew.alloc (.cells #[] 9)) (.slice (some ⟨W.heap.size, 0, none⟩) 0 0) [] ∧ SSrc (W.drew.alloc (.cells #[] 9)) v us ∧ Below W.heap.size W (W.drew.alloc (.cells #[] 9)) := by
  have hb : Below W.heap.size W (W.drew.alloc (.cells #[] 9)) := ((Below.refl W.heap.size W).drew).alloc (Nat.le_refl _) _
  exact ⟨srow_lit W.drew _ (Nat.le_refl _), (h.below hb).src, hb⟩
theorem appB (W : World) (v : Value) (us : List ByteArray) (x : ByteArray) (h : Strs W v us) : SRow W.heap.size ((W.drew.alloc (.cells #[] 9)).alloc (.cells #[.string x] 9)) (.slice (some ⟨W.heap.size, 0, none⟩) 0 0) [] ∧ SSrc ((W.drew.alloc (.cells #[] 9)).alloc (.cells #[.string x] 9)) v us ∧ Below W.heap.size W ((W.drew.alloc (.cells #[] 9)).alloc (.cells #[.string x] 9)) ∧ ((W.drew.alloc (.cells #[] 9)).alloc (.cells #[.string x] 9)).cell? ⟨W.heap.size + 1, 0, none⟩ = some (.string x) := by
  have hb1 : Below W.heap.size W (W.drew.alloc (.cells #[] 9)) := ((Below.refl W.heap.size W).drew).alloc (Nat.le_refl _) _
  have hb : Below W.heap.size W ((W.drew.alloc (.cells #[] 9)).alloc (.cells #[.string x] 9)) := hb1.alloc hb1.size _
  exact ⟨(srow_lit W.drew _ (Nat.le_refl _)).below ((Below.refl _ _).alloc (Nat.le_refl _) _), (h.below hb).src, hb, (World.cell?_alloc_at _ _ _ _ (by simp)).trans rfl⟩
theorem appC (W : World) (v : Value) (us : List ByteArray) (x : ByteArray) (h : Strs W v us) : SRow W.heap.size ((W.drew.alloc (.cells #[.string x] 9)).alloc (.cells #[] 9)) (.slice (some ⟨W.heap.size + 1, 0, none⟩) 0 0) [] ∧ SSrc ((W.drew.alloc (.cells #[.string x] 9)).alloc (.cells #[] 9)) v us ∧ Below W.heap.size W ((W.drew.alloc (.cells #[.string x] 9)).alloc (.cells #[] 9)) ∧ ((W.drew.alloc (.cells #[.string x] 9)).alloc (.cells #[] 9)).cell? ⟨W.heap.size, 0, none⟩ = some (.string x) := by
  have hb1 : Below W.heap.size W (W.drew.alloc (.cells #[.string x] 9)) := ((Below.refl W.heap.size W).drew).alloc (Nat.le_refl _) _
  have hb : Below W.heap.size W ((W.drew.alloc (.cells #[.string x] 9)).alloc (.cells #[] 9)) := hb1.alloc hb1.size _
  have h1 := srow_lit (W.drew.alloc (.cells #[.string x] 9)) W.heap.size (by simp)
  have e : (W.drew.alloc (.cells #[.string x] 9)).heap.size = W.heap.size + 1 := by simp
  rw [e] at h1
  refine ⟨h1, (h.below hb).src, hb, ?_⟩
  rw [World.cell?_alloc_lt _ _ ⟨W.heap.size, 0, none⟩ (by simp)]
  exact (World.cell?_alloc_at _ _ _ _ (by simp)).trans rfl
/-- Behind an append into a row of its own. -/
theorem appN {W W1 w1 : World} {v : Value} {xs : List ByteArray} (hb : Below W.heap.size W W1) (hr : SRow W.heap.size W1 v xs) (hg : W1.grownBy w1 v.ownBlock) : Below W.heap.size W w1 := hb.grown hg hb.size (fun j hj => (World.ownsRow.lt hr j hj).1)

end Go.Proofs.YtmbfkmmfneeleaaGreatDoor

namespace Go.Proofs.YtmbfkmmfneeleaaGreatDoor
open Go.RowKit
set_option linter.unusedVariables false
set_option linter.unusedSimpArgs false

theorem drop_cons2 {α : Type} (l : List α) (j : Nat) (h : j < l.length) : l.drop j = l[j] :: l.drop (j + 1) := (List.getElem_cons_drop h).symm
theorem drop_take_2 {α : Type} (l : List α) (i j : Nat) : (l.take (i + j)).drop i = (l.drop i).take j := by
  rw [List.drop_take]; congr 1; omega
theorem drop_take_3 {α : Type} (l : List α) (k i j : Nat) : (l.take (k + i + j)).drop (k + i) = ((l.drop k).take (i + j)).drop i := by
  rw [drop_take_2, drop_take_2, List.drop_drop]
/-- What stays while the specification looks at a body: the tree. -/
structure Tv (w : World) (t : Tr) (vg vf : Value) : Prop where
  g : Globs w vg t.globals
  f : Funcs w vf t.funcs
theorem Tv.below {w w' : World} {t : Tr} {vg vf : Value} (h : Tv w t vg vf) (hb : Below w.heap.size w w') : Tv w' t vg vf := ⟨h.g.below hb, h.f.below hb⟩
def L3Block (n : Nat) : Prop := ∀ (t : Tr) (vg vf vb vs vt : Value) (ss : List St) (a : Int) (sc tk : List ByteArray) (w : World), ss.length ≤ n → Tv w t vg vf → Stmts w vb ss → fitB ss = true → (∀ s ∈ ss, smallS s) → Strs w vs sc → Strs w vt tk → t.globals.length ≤ 1048576 → t.funcs.length ≤ 1048576 →
  sc.length + ss.length ≤ 800000 → tk.length + ss.length ≤ 800000 → 0 ≤ a → a + ss.length ≤ 800000 →
  Calls Tryz.prog 31 #[.agg #[vg, vf], vb, .int .i64 a, vs, vt] w fun e w' => ∃ vt', e = .returned (.tuple #[.int .i64 (blkE t ss a sc tk).1, .int .i64 (blkE t ss a sc tk).2.1, vt']) ∧ Strs w' vt' (blkE t ss a sc tk).2.2 ∧ Below w.heap.size w w'
theorem Strs.shape {w : World} {v : Value} {us : List ByteArray} (h : Strs w v us) : ∃ a c, v = .slice a us.length c := by
  obtain ⟨a, c, rfl, -⟩ := h
  exact ⟨a, c, rfl⟩
theorem box6M {M : Nat} {w w' : World} {t : TypeId} {x0 x1 x2 x3 x4 x5 : Value} (hM : M = w.heap.size) (h : Below (M + 1) (w.alloc (.cells #[x0, x1, x2, x3, x4, x5] t)) w') :
    w'.cell? ⟨M, 0, none⟩ = some x0 ∧ w'.cell? ⟨M, 1, none⟩ = some x1 ∧ w'.cell? ⟨M, 2, none⟩ = some x2 ∧ w'.cell? ⟨M, 3, none⟩ = some x3 ∧ w'.cell? ⟨M, 4, none⟩ = some x4 ∧ w'.cell? ⟨M, 5, none⟩ = some x5 := by
  subst hM; exact box6 h


end Go.Proofs.YtmbfkmmfneeleaaGreatDoor
