import Derived.Test.YtijgcjeijcidfaaDoorW3
namespace Go.Proofs.YtijgcjeijcidfaaDoor
set_option linter.unusedVariables false
def sumBy {α : Type} (f : α → Nat) : List α → Nat
  | [] => 0
  | x :: r => f x + sumBy f r
theorem sumBy_append {α : Type} (f : α → Nat) (a b : List α) : sumBy f (a ++ b) = sumBy f a + sumBy f b := by
  induction a with
  | nil => simp [sumBy]
  | cons x r ih => simp [sumBy, ih]; omega
theorem sumBy_step {α : Type} (f : α → Nat) (l : List α) (k : Nat) (h : k < l.length) : sumBy f (l.take (k + 1)) = sumBy f (l.take k) + f l[k] := by
  rw [take_succ l k h, sumBy_append]; simp [sumBy]
theorem sumBy_le {α : Type} (f : α → Nat) (l : List α) (k : Nat) : sumBy f (l.take k) ≤ sumBy f l := by
  have := sumBy_append f (l.take k) (l.drop k)
  rw [List.take_append_drop] at this
  omega
theorem sumBy_mem {α : Type} (f : α → Nat) (l : List α) (x : α) (h : x ∈ l) : f x ≤ sumBy f l := by
  induction l with
  | nil => cases h
  | cons y r ih =>
    simp only [sumBy]
    rcases List.mem_cons.1 h with rfl | h
    · omega
    · have := ih h; omega
def szN (n : Nd) : Nat := n.name.size
def szNs (ns : List Nd) : Nat := ns.length + sumBy szN ns
def szSt (s : St) : Nat := s.name.size + szNs s.e + szNs s.f
def szSs (ss : List St) : Nat := ss.length + sumBy szSt ss
def szPs (ps : List ByteArray) : Nat := ps.length + sumBy ByteArray.size ps
def szFu (f : Fu) : Nat := f.name.size + szPs f.params + szSs f.body
def szFs (fs : List Fu) : Nat := fs.length + sumBy szFu fs
def szG (g : Gl) : Nat := g.name.size
def szGs (gs : List Gl) : Nat := gs.length + sumBy szG gs
def szT (t : Tr) : Nat := szGs t.globals + szFs t.funcs
def szR (left : Int) (n : Nat) : Int := if (n : Int) ≤ left then left - n else -1
theorem szR_le {left : Int} {n : Nat} (h : (n : Int) ≤ left) : szR left n = left - n := if_pos h
theorem szR_gt {left : Int} {n : Nat} (h : left < (n : Int)) : szR left n = -1 := if_neg (by omega)
/-- Every length can be told. -/
def wfNs (ns : List Nd) : Prop := ns.length ≤ 9223372036854775807 ∧ ∀ n ∈ ns, n.name.size ≤ 9223372036854775807
def wfSt (s : St) : Prop := s.name.size ≤ 9223372036854775807 ∧ wfNs s.e ∧ wfNs s.f
def wfSs (ss : List St) : Prop := ss.length ≤ 9223372036854775807 ∧ ∀ s ∈ ss, wfSt s
def wfPs (ps : List ByteArray) : Prop := ps.length ≤ 9223372036854775807 ∧ ∀ s ∈ ps, s.size ≤ 9223372036854775807
def wfFu (f : Fu) : Prop := f.name.size ≤ 9223372036854775807 ∧ wfPs f.params ∧ wfSs f.body
def wfFs (fs : List Fu) : Prop := fs.length ≤ 9223372036854775807 ∧ ∀ f ∈ fs, wfFu f
def wfGs (gs : List Gl) : Prop := gs.length ≤ 9223372036854775807 ∧ ∀ g ∈ gs, g.name.size ≤ 9223372036854775807
def wfT (t : Tr) : Prop := wfGs t.globals ∧ wfFs t.funcs
theorem smallT_of {t : Tr} (h : szT t ≤ 1048576) : smallT t := by
  unfold szT szGs szFs at h
  refine ⟨by omega, by omega, fun f hf => ?_⟩
  have h1 := sumBy_mem szFu _ _ hf
  have e1 : szFu f = f.name.size + (f.params.length + sumBy ByteArray.size f.params) + (f.body.length + sumBy szSt f.body) := rfl
  refine ⟨by omega, by omega, fun s hs => ?_⟩
  have h2 := sumBy_mem szSt _ _ hs
  have e2 : szSt s = s.name.size + (s.e.length + sumBy szN s.e) + (s.f.length + sumBy szN s.f) := rfl
  exact ⟨by omega, by omega⟩
end Go.Proofs.YtijgcjeijcidfaaDoor
