import Derived.Test.YtlbdmahkmangbaaGreatDoorQV0
namespace Go.Proofs.YtlbdmahkmangbaaGreatDoor
set_option linter.unusedVariables false

/-- How many more operands a row of nodes wants, read from its end. -/
def defc : List Nd → Int
  | [] => 1
  | n :: r => defc r + arity n - 1
def goodAll (l : List Nd) : Prop := ∀ n ∈ l, nodeB n = true
theorem wholeTo_iff (l : List Nd) (hg : goodAll l) (k : Int) : wholeTo l k = some 1 ↔ defc l = k ∧ ∀ j, 1 ≤ j → j ≤ l.length → 1 ≤ defc (l.drop j) := by
  induction l generalizing k with
  | nil =>
    simp only [wholeTo, Option.some.injEq, defc, List.length_nil, List.drop_nil]
    constructor
    · rintro rfl; exact ⟨rfl, fun j _ _ => Int.le_refl _⟩
    · rintro ⟨rfl, _⟩; rfl
  | cons n r ih =>
    have hn : nodeB n = true := hg n (by simp)
    have ih' := ih (fun m hm => hg m (by simp [hm]))
    simp only [wholeTo, hn, true_and]
    by_cases ha : arity n ≤ k
    · rw [if_pos ha, ih', defc]
      constructor
      · rintro ⟨h1, h2⟩
        refine ⟨by omega, fun j hj1 hj2 => ?_⟩
        obtain ⟨j', rfl⟩ : ∃ j', j = j' + 1 := ⟨j - 1, by omega⟩
        rw [List.drop_succ_cons]
        rcases Nat.eq_zero_or_pos j' with rfl | hp
        · rw [List.drop_zero]; omega
        · exact h2 j' hp (by simpa using hj2)
      · rintro ⟨h1, h2⟩
        refine ⟨by omega, fun j hj1 hj2 => ?_⟩
        have := h2 (j + 1) (by omega) (by simpa using hj2)
        rwa [List.drop_succ_cons] at this
    · rw [if_neg ha]
      constructor
      · intro h; cases h
      · rintro ⟨h1, h2⟩
        exfalso
        have := h2 1 (Nat.le_refl _) (by simp)
        simp only [List.drop_succ_cons, List.drop_zero] at this
        simp only [defc] at h1
        omega
theorem wholeTo_good (l : List Nd) (k q : Int) (h : wholeTo l k = some q) : goodAll l := by
  induction l generalizing k with
  | nil => intro n hn; cases hn
  | cons m r ih =>
    simp only [wholeTo] at h
    split at h
    · rename_i hm
      intro n hn
      rcases List.mem_cons.1 hn with rfl | hn
      · exact hm.1
      · exact ih _ h n hn
    · cases h
theorem oneB_iff (l : List Nd) : oneB l = true ↔ goodAll l ∧ defc l = 0 ∧ ∀ j, 1 ≤ j → j ≤ l.length → 1 ≤ defc (l.drop j) := by
  constructor
  · intro h
    have h' : wholeTo l 0 = some 1 := by simpa [oneB] using h
    have hg := wholeTo_good l 0 1 h'
    exact ⟨hg, (wholeTo_iff l hg 0).1 h'⟩
  · rintro ⟨hg, h⟩
    have := (wholeTo_iff l hg 0).2 h
    simp [oneB, this]

/-- Where the expression at the end of a row of nodes begins: -1 where it lacks operands. -/
def fromP (l : List Nd) (r : Int) : Prop :=
  (∃ i : Nat, r = i ∧ i < l.length ∧ defc (l.drop i) = 0 ∧ ∀ j, i < j → j ≤ l.length → 1 ≤ defc (l.drop j)) ∨ (r = -1 ∧ ∀ j, j ≤ l.length → 1 ≤ defc (l.drop j))
theorem fromP_one {l : List Nd} {r : Int} (hg : goodAll l) (h : fromP l r) : (r == 0) = oneB l := by
  apply Bool.eq_iff_iff.2
  rw [oneB_iff]
  simp only [beq_iff_eq]
  rcases h with ⟨i, rfl, hi, h0, hj⟩ | ⟨rfl, hj⟩
  · constructor
    · intro h
      obtain rfl : i = 0 := by omega
      exact ⟨hg, by simpa using h0, fun j h1 h2 => hj j (by omega) h2⟩
    · rintro ⟨_, _, h⟩
      rcases Nat.eq_zero_or_pos i with rfl | hp
      · rfl
      · have := h i hp (by omega); omega
  · constructor
    · intro h; omega
    · rintro ⟨_, h, _⟩
      have := hj 0 (Nat.zero_le _)
      rw [List.drop_zero] at this
      omega
theorem defc_drop (l : List Nd) (i : Nat) (h : i < l.length) : defc (l.drop i) = defc (l.drop (i + 1)) + arity l[i] - 1 := by
  rw [List.drop_eq_getElem_cons h, defc]
theorem defc_le (l : List Nd) (hg : goodAll l) : defc l ≤ 1 + 6 * l.length := by
  induction l with
  | nil => simp [defc]
  | cons n r ih =>
    have := ih (fun m hm => hg m (by simp [hm]))
    have := arity_good (hg n (by simp))
    simp only [defc, List.length_cons]
    omega
theorem goodAll_drop {l : List Nd} (hg : goodAll l) (i : Nat) : goodAll (l.drop i) := fun n hn => hg n (List.mem_of_mem_drop hn)

end Go.Proofs.YtlbdmahkmangbaaGreatDoor

namespace Go.Proofs.YtlbdmahkmangbaaGreatDoor
set_option linter.unusedVariables false
def lastKind (e : List Nd) : Int := match e[e.length - 1]? with | some n => n.kind | none => 0
/-- A statement's fields, but for the sizes of its blocks. -/
def stmtB (s : St) : Bool :=
  decide (1 ≤ s.kind ∧ s.kind ≤ 8) && (if s.kind ≤ 3 then nameB s.name else s.name.toList == []) && oneB s.e && (if s.kind = 3 then oneB s.f else s.f.length == 0) && (decide (s.kind ≠ 8) || lastKind s.e == 4) && (decide (s.kind = 4 ∨ s.kind = 5) || s.thn == 0) && (decide (s.kind = 4) || s.els == 0)
theorem oneB_pos {l : List Nd} (h : oneB l = true) : 0 < l.length := by
  cases l with
  | nil => simp [oneB, wholeTo] at h
  | cons n r => simp
end Go.Proofs.YtlbdmahkmangbaaGreatDoor

namespace Go.Proofs.YtlbdmahkmangbaaGreatDoor
set_option linter.unusedVariables false
/-- Whether each block lies within the one around it. -/
def fitN : Nat → List St → Bool
  | _, [] => true
  | 0, _ :: _ => false
  | n + 1, s :: r => decide (0 ≤ s.thn ∧ s.thn ≤ r.length ∧ 0 ≤ s.els ∧ s.els ≤ r.length - s.thn) && (fitN n (r.take s.thn.toNat) && (fitN n ((r.take (s.thn.toNat + s.els.toNat)).drop s.thn.toNat) && fitN n (r.drop (s.thn.toNat + s.els.toNat))))
def fitB (l : List St) : Bool := fitN l.length l
theorem fitN_any (n m : Nat) (l : List St) (hn : l.length ≤ n) (hm : l.length ≤ m) : fitN n l = fitN m l := by
  induction n generalizing m l with
  | zero =>
    have : l = [] := List.eq_nil_of_length_eq_zero (by omega)
    subst this
    cases m <;> rfl
  | succ n ih =>
    cases l with
    | nil => cases m <;> rfl
    | cons s r =>
      cases m with
      | zero => simp at hm
      | succ m =>
        simp only [List.length_cons] at hn hm
        simp only [fitN]
        rw [ih m (r.take s.thn.toNat) (by simp; omega) (by simp; omega), ih m ((r.take (s.thn.toNat + s.els.toNat)).drop s.thn.toNat) (by simp; omega) (by simp; omega), ih m (r.drop (s.thn.toNat + s.els.toNat)) (by simp; omega) (by simp; omega)]
theorem fitB_nil : fitB [] = true := rfl
theorem fitB_cons (s : St) (r : List St) : fitB (s :: r) = (decide (0 ≤ s.thn ∧ s.thn ≤ r.length ∧ 0 ≤ s.els ∧ s.els ≤ r.length - s.thn) && (fitB (r.take s.thn.toNat) && (fitB ((r.take (s.thn.toNat + s.els.toNat)).drop s.thn.toNat) && fitB (r.drop (s.thn.toNat + s.els.toNat))))) := by
  have h : fitB (s :: r) = fitN (r.length + 1) (s :: r) := rfl
  rw [h]
  simp only [fitN]
  rw [fitN_any r.length _ (r.take s.thn.toNat) (by simp; omega) (Nat.le_refl _), fitN_any r.length _ ((r.take (s.thn.toNat + s.els.toNat)).drop s.thn.toNat) (by simp; omega) (Nat.le_refl _), fitN_any r.length _ (r.drop (s.thn.toNat + s.els.toNat)) (by simp) (Nat.le_refl _)]
  rfl
theorem fitB_all (n : Nat) : ∀ l : List St, l.length ≤ n → fitB l = true → ∀ s ∈ l, 0 ≤ s.thn ∧ 0 ≤ s.els := by
  induction n with
  | zero =>
    intro l hl _ s hs
    have : l = [] := List.eq_nil_of_length_eq_zero (by omega)
    subst this
    cases hs
  | succ n ih =>
    intro l hl h s hs
    cases l with
    | nil => cases hs
    | cons t r =>
      simp only [List.length_cons] at hl
      rw [fitB_cons] at h
      simp only [Bool.and_eq_true, decide_eq_true_eq] at h
      obtain ⟨h0, h1, h2, h3⟩ := h
      rcases List.mem_cons.1 hs with rfl | hs
      · exact ⟨h0.1, h0.2.2.1⟩
      · have hr : r = r.take t.thn.toNat ++ ((r.take (t.thn.toNat + t.els.toNat)).drop t.thn.toNat ++ r.drop (t.thn.toNat + t.els.toNat)) := by
          rw [← List.append_assoc]
          have e : r.take t.thn.toNat ++ (r.take (t.thn.toNat + t.els.toNat)).drop t.thn.toNat = r.take (t.thn.toNat + t.els.toNat) := by
            have := List.take_append_drop t.thn.toNat (r.take (t.thn.toNat + t.els.toNat))
            rwa [List.take_take, Nat.min_eq_left (by omega)] at this
          rw [e, List.take_append_drop]
        rw [hr] at hs
        rcases List.mem_append.1 hs with hs | hs
        · exact ih _ (by simp; omega) h1 s hs
        · rcases List.mem_append.1 hs with hs | hs
          · exact ih _ (by simp; omega) h2 s hs
          · exact ih _ (by simp; omega) h3 s hs
end Go.Proofs.YtlbdmahkmangbaaGreatDoor

namespace Go.Proofs.YtlbdmahkmangbaaGreatDoor
set_option linter.unusedVariables false
def nodeSum : List St → Nat
  | [] => 0
  | s :: r => s.e.length + s.f.length + nodeSum r
theorem nodeSum_append (a b : List St) : nodeSum (a ++ b) = nodeSum a + nodeSum b := by
  induction a with
  | nil => simp [nodeSum]
  | cons s r ih => simp [nodeSum, ih]; omega
theorem nodeSum_step (l : List St) (k : Nat) (h : k < l.length) : nodeSum (l.take (k + 1)) = nodeSum (l.take k) + l[k].e.length + l[k].f.length := by
  rw [take_succ l k h, nodeSum_append]; simp [nodeSum]; omega
theorem nodeSum_le (l : List St) (k : Nat) : nodeSum (l.take k) ≤ nodeSum l := by
  have := nodeSum_append (l.take k) (l.drop k)
  rw [List.take_append_drop] at this
  omega
def stmtsB (p : St → Bool) (l : List St) : Bool := decide (nodeSum l ≤ 2000) && l.all p
theorem stmtsB_sum {p : St → Bool} {l : List St} {k : Nat} (h : 2000 < nodeSum (l.take k)) : stmtsB p l = false := by
  have := nodeSum_le l k
  simp only [stmtsB, decide_eq_false (show ¬ nodeSum l ≤ 2000 by omega), Bool.false_and]
theorem stmtsB_bad {p : St → Bool} {l : List St} {k : Nat} (hk : k < l.length) (h : p l[k] = false) : stmtsB p l = false := by
  have : l.all p = false := by
    rw [List.all_eq_false]
    exact ⟨l[k], List.getElem_mem hk, by simp [h]⟩
  simp [stmtsB, this]
theorem stmtsB_ok {p : St → Bool} {l : List St} (h1 : nodeSum l ≤ 2000) (h2 : ∀ s ∈ l, p s = true) : stmtsB p l = true := by
  have : l.all p = true := List.all_eq_true.2 h2
  simp [stmtsB, this, h1]
theorem all_bad {p : ByteArray → Bool} {l : List ByteArray} {k : Nat} (hk : k < l.length) (h : p l[k] = false) : l.all p = false := by
  rw [List.all_eq_false]
  exact ⟨l[k], List.getElem_mem hk, by simp [h]⟩
def funcB (f : Fu) : Bool := nameB f.name && (decide (f.params.length ≤ 6) && (decide (f.body.length ≤ 500) && (f.params.all nameB && (stmtsB stmtB f.body && fitB f.body))))
def gstmtB (s : St) : Bool := stmtB s && decide (0 ≤ s.thn ∧ 0 ≤ s.els)
theorem gstmts_fit (l : List St) : (stmtsB gstmtB l && fitB l) = (stmtsB stmtB l && fitB l) := by
  cases h : fitB l
  · simp
  · have hn := fitB_all l.length l (Nat.le_refl _) h
    have : l.all gstmtB = l.all stmtB := by
      apply Bool.eq_iff_iff.2
      rw [List.all_eq_true, List.all_eq_true]
      constructor
      · intro h s hs
        have := h s hs
        simp only [gstmtB, Bool.and_eq_true] at this
        exact this.1
      · intro h s hs
        simp only [gstmtB, Bool.and_eq_true, decide_eq_true_eq]
        exact ⟨h s hs, hn s hs⟩
    simp only [stmtsB, this]
theorem gstmts_nonneg {l : List St} (h : ∀ s ∈ l, gstmtB s = true) : ∀ s ∈ l, 0 ≤ s.thn ∧ 0 ≤ s.els := by
  intro s hs
  have := h s hs
  simp only [gstmtB, Bool.and_eq_true, decide_eq_true_eq] at this
  exact this.2
def globB (g : Gl) : Bool := nameB g.name && decide (0 ≤ g.size ∧ g.size ≤ 4000)
def treeB (t : Tr) : Bool := decide (t.globals.length ≤ 50) && (decide (t.funcs.length ≤ 50) && (t.globals.all globB && t.funcs.all funcB))
theorem allG_bad {l : List Gl} {k : Nat} (hk : k < l.length) (h : globB l[k] = false) : l.all globB = false := by
  rw [List.all_eq_false]
  exact ⟨l[k], List.getElem_mem hk, by simp [h]⟩
theorem allF_bad {l : List Fu} {k : Nat} (hk : k < l.length) (h : funcB l[k] = false) : l.all funcB = false := by
  rw [List.all_eq_false]
  exact ⟨l[k], List.getElem_mem hk, by simp [h]⟩
def smallS (s : St) : Prop := s.e.length ≤ 1048576 ∧ s.f.length ≤ 1048576
def smallF (f : Fu) : Prop := f.params.length ≤ 1048576 ∧ f.body.length ≤ 1048576 ∧ ∀ s ∈ f.body, smallS s
def smallT (t : Tr) : Prop := t.globals.length ≤ 1048576 ∧ t.funcs.length ≤ 1048576 ∧ ∀ f ∈ t.funcs, smallF f
end Go.Proofs.YtlbdmahkmangbaaGreatDoor

namespace Go.Proofs.YtlbdmahkmangbaaGreatDoor
set_option linter.unusedVariables false
def sumBy {α : Type} (f : α → Nat) : List α → Nat
  | [] => 0
  | x :: r => f x + sumBy f r
theorem sumBy_append {α : Type} (f : α → Nat) (a b : List α) : sumBy f (a ++ b) = sumBy f a + sumBy f b := by
  induction a with
  | nil => simp [sumBy]
  | cons x r ih => simp [sumBy, ih]; omega
theorem sumBy_step {α : Type} (f : α → Nat) (l : List α) (k : Nat) (h : k < l.length) : sumBy f (l.take (k + 1)) = sumBy f (l.take k) + f l[k] := by
  rw [take_succ l k h, sumBy_append]; simp [sumBy]
theorem sumBy_le {α : Type} (f : α → Nat) (l : List α) (k : Nat) : sumBy f (l.take k) ≤ sumBy f l := by
  have := sumBy_append f (l.take k) (l.drop k)
  rw [List.take_append_drop] at this
  omega
theorem sumBy_mem {α : Type} (f : α → Nat) (l : List α) (x : α) (h : x ∈ l) : f x ≤ sumBy f l := by
  induction l with
  | nil => cases h
  | cons y r ih =>
    simp only [sumBy]
    rcases List.mem_cons.1 h with rfl | h
    · omega
    · have := ih h; omega
def szN (n : Nd) : Nat := n.name.size
def szNs (ns : List Nd) : Nat := ns.length + sumBy szN ns
def szSt (s : St) : Nat := s.name.size + szNs s.e + szNs s.f
def szSs (ss : List St) : Nat := ss.length + sumBy szSt ss
def szPs (ps : List ByteArray) : Nat := ps.length + sumBy ByteArray.size ps
def szFu (f : Fu) : Nat := f.name.size + szPs f.params + szSs f.body
def szFs (fs : List Fu) : Nat := fs.length + sumBy szFu fs
def szG (g : Gl) : Nat := g.name.size
def szGs (gs : List Gl) : Nat := gs.length + sumBy szG gs
def szT (t : Tr) : Nat := szGs t.globals + szFs t.funcs
def szR (left : Int) (n : Nat) : Int := if (n : Int) ≤ left then left - n else -1
theorem szR_le {left : Int} {n : Nat} (h : (n : Int) ≤ left) : szR left n = left - n := if_pos h
theorem szR_gt {left : Int} {n : Nat} (h : left < (n : Int)) : szR left n = -1 := if_neg (by omega)
/-- Every length can be told. -/
def wfNs (ns : List Nd) : Prop := ns.length ≤ 9223372036854775807 ∧ ∀ n ∈ ns, n.name.size ≤ 9223372036854775807
def wfSt (s : St) : Prop := s.name.size ≤ 9223372036854775807 ∧ wfNs s.e ∧ wfNs s.f
def wfSs (ss : List St) : Prop := ss.length ≤ 9223372036854775807 ∧ ∀ s ∈ ss, wfSt s
def wfPs (ps : List ByteArray) : Prop := ps.length ≤ 9223372036854775807 ∧ ∀ s ∈ ps, s.size ≤ 9223372036854775807
def wfFu (f : Fu) : Prop := f.name.size ≤ 9223372036854775807 ∧ wfPs f.params ∧ wfSs f.body
def wfFs (fs : List Fu) : Prop := fs.length ≤ 9223372036854775807 ∧ ∀ f ∈ fs, wfFu f
def wfGs (gs : List Gl) : Prop := gs.length ≤ 9223372036854775807 ∧ ∀ g ∈ gs, g.name.size ≤ 9223372036854775807
def wfT (t : Tr) : Prop := wfGs t.globals ∧ wfFs t.funcs
theorem smallT_of {t : Tr} (h : szT t ≤ 1048576) : smallT t := by
  unfold szT szGs szFs at h
  refine ⟨by omega, by omega, fun f hf => ?_⟩
  have h1 := sumBy_mem szFu _ _ hf
  have e1 : szFu f = f.name.size + (f.params.length + sumBy ByteArray.size f.params) + (f.body.length + sumBy szSt f.body) := rfl
  refine ⟨by omega, by omega, fun s hs => ?_⟩
  have h2 := sumBy_mem szSt _ _ hs
  have e2 : szSt s = s.name.size + (s.e.length + sumBy szN s.e) + (s.f.length + sumBy szN s.f) := rfl
  exact ⟨by omega, by omega⟩
end Go.Proofs.YtlbdmahkmangbaaGreatDoor
