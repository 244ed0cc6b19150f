import Derived.Test.YtbmcnjjhgjphmaaDoorW2
namespace Go.Proofs.YtbmcnjjhgjphmaaDoor
set_option linter.unusedVariables false
def nodeSum : List St → Nat
  | [] => 0
  | s :: r => s.e.length + s.f.length + nodeSum r
theorem nodeSum_append (a b : List St) : nodeSum (a ++ b) = nodeSum a + nodeSum b := by
  induction a with
  | nil => simp [nodeSum]
  | cons s r ih => simp [nodeSum, ih]; omega
theorem nodeSum_step (l : List St) (k : Nat) (h : k < l.length) : nodeSum (l.take (k + 1)) = nodeSum (l.take k) + l[k].e.length + l[k].f.length := by
  rw [take_succ l k h, nodeSum_append]; simp [nodeSum]; omega
theorem nodeSum_le (l : List St) (k : Nat) : nodeSum (l.take k) ≤ nodeSum l := by
  have := nodeSum_append (l.take k) (l.drop k)
  rw [List.take_append_drop] at this
  omega
def stmtsB (p : St → Bool) (l : List St) : Bool := decide (nodeSum l ≤ 2000) && l.all p
theorem stmtsB_sum {p : St → Bool} {l : List St} {k : Nat} (h : 2000 < nodeSum (l.take k)) : stmtsB p l = false := by
  have := nodeSum_le l k
  simp only [stmtsB, decide_eq_false (show ¬ nodeSum l ≤ 2000 by omega), Bool.false_and]
theorem stmtsB_bad {p : St → Bool} {l : List St} {k : Nat} (hk : k < l.length) (h : p l[k] = false) : stmtsB p l = false := by
  have : l.all p = false := by
    rw [List.all_eq_false]
    exact ⟨l[k], List.getElem_mem hk, by simp [h]⟩
  simp [stmtsB, this]
theorem stmtsB_ok {p : St → Bool} {l : List St} (h1 : nodeSum l ≤ 2000) (h2 : ∀ s ∈ l, p s = true) : stmtsB p l = true := by
  have : l.all p = true := List.all_eq_true.2 h2
  simp [stmtsB, this, h1]
theorem all_bad {p : ByteArray → Bool} {l : List ByteArray} {k : Nat} (hk : k < l.length) (h : p l[k] = false) : l.all p = false := by
  rw [List.all_eq_false]
  exact ⟨l[k], List.getElem_mem hk, by simp [h]⟩
def funcB (f : Fu) : Bool := nameB f.name && (decide (f.params.length ≤ 6) && (decide (f.body.length ≤ 500) && (f.params.all nameB && (stmtsB stmtB f.body && fitB f.body))))
def gstmtB (s : St) : Bool := stmtB s && decide (0 ≤ s.thn ∧ 0 ≤ s.els)
theorem gstmts_fit (l : List St) : (stmtsB gstmtB l && fitB l) = (stmtsB stmtB l && fitB l) := by
  cases h : fitB l
  · simp
  · have hn := fitB_all l.length l (Nat.le_refl _) h
    have : l.all gstmtB = l.all stmtB := by
      apply Bool.eq_iff_iff.2
      rw [List.all_eq_true, List.all_eq_true]
      constructor
      · intro h s hs
        have := h s hs
        simp only [gstmtB, Bool.and_eq_true] at this
        exact this.1
      · intro h s hs
        simp only [gstmtB, Bool.and_eq_true, decide_eq_true_eq]
        exact ⟨h s hs, hn s hs⟩
    simp only [stmtsB, this]
theorem gstmts_nonneg {l : List St} (h : ∀ s ∈ l, gstmtB s = true) : ∀ s ∈ l, 0 ≤ s.thn ∧ 0 ≤ s.els := by
  intro s hs
  have := h s hs
  simp only [gstmtB, Bool.and_eq_true, decide_eq_true_eq] at this
  exact this.2
def globB (g : Gl) : Bool := nameB g.name && decide (0 ≤ g.size ∧ g.size ≤ 4000)
def treeB (t : Tr) : Bool := decide (t.globals.length ≤ 50) && (decide (t.funcs.length ≤ 50) && (t.globals.all globB && t.funcs.all funcB))
theorem allG_bad {l : List Gl} {k : Nat} (hk : k < l.length) (h : globB l[k] = false) : l.all globB = false := by
  rw [List.all_eq_false]
  exact ⟨l[k], List.getElem_mem hk, by simp [h]⟩
theorem allF_bad {l : List Fu} {k : Nat} (hk : k < l.length) (h : funcB l[k] = false) : l.all funcB = false := by
  rw [List.all_eq_false]
  exact ⟨l[k], List.getElem_mem hk, by simp [h]⟩
def smallS (s : St) : Prop := s.e.length ≤ 1048576 ∧ s.f.length ≤ 1048576
def smallF (f : Fu) : Prop := f.params.length ≤ 1048576 ∧ f.body.length ≤ 1048576 ∧ ∀ s ∈ f.body, smallS s
def smallT (t : Tr) : Prop := t.globals.length ≤ 1048576 ∧ t.funcs.length ≤ 1048576 ∧ ∀ f ∈ t.funcs, smallF f
end Go.Proofs.YtbmcnjjhgjphmaaDoor
