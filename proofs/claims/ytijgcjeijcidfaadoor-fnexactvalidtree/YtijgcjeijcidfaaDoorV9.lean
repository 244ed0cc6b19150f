import Derived.Test.YtijgcjeijcidfaaDoorV8
import Derived.Test.YtijgcjeijcidfaaDoorW3
namespace Go.Proofs.YtijgcjeijcidfaaDoor
open Go.RowKit
set_option linter.unusedVariables false
set_option linter.unusedSimpArgs false

theorem nameB_empty {s : ByteArray} (h : nameB s = true) : (s.toList == []) = false := by
  have hp := ((nameB_iff s).1 h).1
  have hl : s.toList.length = s.size := by rw [ByteArray.toList_eq]; simp
  cases e : (s.toList == [])
  · rfl
  · have e' : s.toList = [] := by simpa using e
    rw [e'] at hl
    simp at hl
    omega

theorem run_kind (x y : Int) (z : ByteArray) (w : World) : (Instr.field 71 (.agg #[.int .i64 x, .int .i64 y, .string z]) 0).run Tryd.prog w = .ok (.int .i64 x) w := by kernel_rfl

theorem box6 {w w' : World} {t : TypeId} {x0 x1 x2 x3 x4 x5 : Value} (h : Below (w.heap.size + 1) (w.alloc (.cells #[x0, x1, x2, x3, x4, x5] t)) w') :
    w'.cell? ⟨w.heap.size, 0, none⟩ = some x0 ∧ w'.cell? ⟨w.heap.size, 1, none⟩ = some x1 ∧ w'.cell? ⟨w.heap.size, 2, none⟩ = some x2 ∧ w'.cell? ⟨w.heap.size, 3, none⟩ = some x3 ∧ w'.cell? ⟨w.heap.size, 4, none⟩ = some x4 ∧ w'.cell? ⟨w.heap.size, 5, none⟩ = some x5 := by
  refine ⟨?_, ?_, ?_, ?_, ?_, ?_⟩ <;> (rw [h.cell (by simp)]; simp)
theorem one_below {w w' : World} {a : Obj} (h : Below (w.heap.size + 1) (w.alloc a) w') : Below w.heap.size w w' :=
  ((Below.refl _ _).alloc (Nat.le_refl _) _).trans (h.mono (by omega))

end Go.Proofs.YtijgcjeijcidfaaDoor
