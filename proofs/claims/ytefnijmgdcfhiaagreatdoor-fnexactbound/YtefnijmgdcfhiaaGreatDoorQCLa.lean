import Derived.Test.YtefnijmgdcfhiaaGreatDoorQCKL
import Derived.Test.YtefnijmgdcfhiaaGreatDoorQCK3
import Derived.Test.YtefnijmgdcfhiaaGreatDoorQVB
namespace Go.Proofs.YtefnijmgdcfhiaaGreatDoor
open Go.RowKit
set_option linter.unusedVariables false
set_option linter.unusedSimpArgs false

theorem drop_cons2 {α : Type} (l : List α) (j : Nat) (h : j < l.length) : l.drop j = l[j] :: l.drop (j + 1) := (List.getElem_cons_drop h).symm
theorem drop_take_2 {α : Type} (l : List α) (i j : Nat) : (l.take (i + j)).drop i = (l.drop i).take j := by
  rw [List.drop_take]; congr 1; omega
theorem drop_take_3 {α : Type} (l : List α) (k i j : Nat) : (l.take (k + i + j)).drop (k + i) = ((l.drop k).take (i + j)).drop i := by
  rw [drop_take_2, drop_take_2, List.drop_drop]
/-- What stays while the specification looks at a body: the tree. -/
structure TrV (w : World) (t : Tr) (vg vf : Value) : Prop where
  g : Globs w vg t.globals
  f : Funcs w vf t.funcs
theorem TrV.below {w w' : World} {t : Tr} {vg vf : Value} (h : TrV w t vg vf) (hb : Below w.heap.size w w') : TrV w' t vg vf := ⟨h.g.below hb, h.f.below hb⟩
def L3Block (n : Nat) : Prop := ∀ (t : Tr) (vg vf vb vs vt : Value) (ss : List St) (a : Int) (sc tk : List ByteArray) (w : World), ss.length ≤ n → TrV w t vg vf → Stmts w vb ss → fitB ss = true → (∀ s ∈ ss, smallS s) → Strs w vs sc → Strs w vt tk → t.globals.length ≤ 1048576 → t.funcs.length ≤ 1048576 →
  sc.length + ss.length ≤ 800000 → tk.length + ss.length ≤ 800000 → 0 ≤ a → a + ss.length ≤ 800000 →
  Calls Tryz.prog 62 #[.agg #[vg, vf], vb, .int .i64 a, vs, vt] w fun e w' => ∃ vt', e = .returned (.tuple #[.int .i64 (blkE t ss a sc tk).1, .int .i64 (blkE t ss a sc tk).2.1, vt']) ∧ Strs w' vt' (blkE t ss a sc tk).2.2 ∧ Below w.heap.size w w'
theorem Strs.shape {w : World} {v : Value} {us : List ByteArray} (h : Strs w v us) : ∃ a c, v = .slice a us.length c := by
  obtain ⟨a, c, rfl, -⟩ := h
  exact ⟨a, c, rfl⟩
theorem box6M {M : Nat} {w w' : World} {t : TypeId} {x0 x1 x2 x3 x4 x5 : Value} (hM : M = w.heap.size) (h : Below (M + 1) (w.alloc (.cells #[x0, x1, x2, x3, x4, x5] t)) w') :
    w'.cell? ⟨M, 0, none⟩ = some x0 ∧ w'.cell? ⟨M, 1, none⟩ = some x1 ∧ w'.cell? ⟨M, 2, none⟩ = some x2 ∧ w'.cell? ⟨M, 3, none⟩ = some x3 ∧ w'.cell? ⟨M, 4, none⟩ = some x4 ∧ w'.cell? ⟨M, 5, none⟩ = some x5 := by
  subst hM; exact box6 h


end Go.Proofs.YtefnijmgdcfhiaaGreatDoor
