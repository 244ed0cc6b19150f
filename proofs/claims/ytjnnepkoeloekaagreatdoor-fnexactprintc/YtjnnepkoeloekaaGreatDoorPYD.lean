import Derived.Test.YtjnnepkoeloekaaGreatDoorPY3
import Derived.Test.YtjnnepkoeloekaaGreatDoorPW0
namespace Go.Proofs.YtjnnepkoeloekaaGreatDoor
set_option linter.unusedVariables false
set_option linter.unusedSimpArgs false

/-- What chooses, given to all that wants it; the last theorem gives it. -/
structure Pick : Type 1 where
  get : (α : Type) → Nonempty α → α
set_option linter.unusedSectionVars false
variable [Inhabited Pick]
def pd (p : Prop) : Decidable p := (default : Pick).get (Decidable p) ⟨Classical.propDecidable p⟩
theorem pick_ne {α : Type} (d : α) (p : α → Prop) : Nonempty {x : α // (∃ y, p y) → p x} := by
  by_cases h : ∃ y, p y
  · obtain ⟨y, hy⟩ := h
    exact ⟨⟨y, fun _ => hy⟩⟩
  · exact ⟨⟨d, fun h' => absurd h' h⟩⟩
def eps {α : Type} (d : α) (p : α → Prop) : α := ((default : Pick).get {x : α // (∃ y, p y) → p x} (pick_ne d p)).1
theorem eps_spec {α : Type} {d : α} {p : α → Prop} (h : ∃ x, p x) : p (eps d p) := ((default : Pick).get {x : α // (∃ y, p y) → p x} (pick_ne d p)).2 h
/-- The text of an expression. -/
def shw (e : List Nd) : List UInt8 := eps [] (Pr e)
theorem shw_pr {e : List Nd} (h : oneB e = true) : Pr e (shw e) := eps_spec (Pr.exists e.length e (Nat.le_refl _) h)
/-- The text of a statement whose blocks have the texts a and b. -/
def stmtT (s : St) (a b : List UInt8) : List UInt8 :=
  if s.kind = 1 then [105, 110, 116, 32] ++ s.name.data.toList ++ [32, 61, 32] ++ (shw s.e ++ [59, 10])
  else if s.kind = 2 then s.name.data.toList ++ [32, 61, 32] ++ (shw s.e ++ [59, 10])
  else if s.kind = 3 then s.name.data.toList ++ [91] ++ (shw s.e ++ [93, 32, 61, 32]) ++ ([] ++ (shw s.f ++ [59, 10]))
  else if s.kind = 4 then [105, 102, 32, 40] ++ (shw s.e ++ [41, 32, 123, 10]) ++ a ++ (if s.els = 0 then [] else [125, 32, 101, 108, 115, 101, 32, 123, 10] ++ b) ++ [125, 10]
  else if s.kind = 5 then [119, 104, 105, 108, 101, 32, 40] ++ (shw s.e ++ [41, 32, 123, 10]) ++ a ++ [125, 10]
  else if s.kind = 6 then [114, 101, 116, 117, 114, 110, 32] ++ (shw s.e ++ [59, 10])
  else if s.kind = 7 then [111, 117, 116, 40] ++ (shw s.e ++ [41, 59, 10])
  else [] ++ (shw s.e ++ [59, 10])
/-- The text of a list of statements. -/
def linesN : Nat → List St → List UInt8
  | _, [] => []
  | 0, _ :: _ => []
  | n + 1, s :: r => stmtT s (linesN n (r.take s.thn.toNat)) (linesN n ((r.take (s.thn.toNat + s.els.toNat)).drop s.thn.toNat)) ++ linesN n (r.drop (s.thn.toNat + s.els.toNat))
def linesT (l : List St) : List UInt8 := linesN l.length l
theorem linesN_any (n m : Nat) (l : List St) (hn : l.length ≤ n) (hm : l.length ≤ m) : linesN n l = linesN m l := by
  induction n generalizing m l with
  | zero =>
    have : l = [] := List.eq_nil_of_length_eq_zero (by omega)
    subst this
    cases m <;> rfl
  | succ n ih =>
    cases l with
    | nil => cases m <;> rfl
    | cons s r =>
      cases m with
      | zero => simp at hm
      | succ m =>
        simp only [List.length_cons] at hn hm
        simp only [linesN]
        rw [ih m (r.take s.thn.toNat) (by simp; omega) (by simp; omega), ih m ((r.take (s.thn.toNat + s.els.toNat)).drop s.thn.toNat) (by simp; omega) (by simp; omega), ih m (r.drop (s.thn.toNat + s.els.toNat)) (by simp; omega) (by simp; omega)]
theorem linesT_nil : linesT [] = [] := rfl
theorem linesT_cons (s : St) (r : List St) : linesT (s :: r) = stmtT s (linesT (r.take s.thn.toNat)) (linesT ((r.take (s.thn.toNat + s.els.toNat)).drop s.thn.toNat)) ++ linesT (r.drop (s.thn.toNat + s.els.toNat)) := by
  have h : linesT (s :: r) = linesN (r.length + 1) (s :: r) := rfl
  rw [h]
  simp only [linesN]
  rw [linesN_any r.length _ (r.take s.thn.toNat) (by simp; omega) (Nat.le_refl _), linesN_any r.length _ ((r.take (s.thn.toNat + s.els.toNat)).drop s.thn.toNat) (by simp; omega) (Nat.le_refl _), linesN_any r.length _ (r.drop (s.thn.toNat + s.els.toNat)) (by simp) (Nat.le_refl _)]
  rfl
/-- Statements that are valid each by itself and lie within one another. -/
def GoodL (l : List St) : Prop := (∀ s ∈ l, stmtB s = true) ∧ fitB l = true
structure GoodS (s : St) : Prop where
  lo : 1 ≤ s.kind
  hi : s.kind ≤ 8
  one : oneB s.e = true
  two : s.kind = 3 → oneB s.f = true
  nof : s.kind ≠ 3 → s.f = []
theorem goodS {s : St} (h : stmtB s = true) : GoodS s := by
  unfold stmtB at h
  simp only [Bool.and_eq_true, decide_eq_true_eq] at h
  obtain ⟨⟨⟨⟨⟨⟨h1, h2⟩, h3⟩, h4⟩, h5⟩, h6⟩, h7⟩ := h
  refine ⟨h1.1, h1.2, h3, fun hk => ?_, fun hk => ?_⟩
  · rw [if_pos hk] at h4; exact h4
  · rw [if_neg hk] at h4
    exact List.eq_nil_of_length_eq_zero (by simpa using h4)
theorem GoodL.parts {s : St} {r : List St} (h : GoodL (s :: r)) : GoodS s ∧ 0 ≤ s.thn ∧ 0 ≤ s.els ∧ s.thn.toNat + s.els.toNat ≤ r.length ∧ GoodL (r.take s.thn.toNat) ∧ GoodL ((r.take (s.thn.toNat + s.els.toNat)).drop s.thn.toNat) ∧ GoodL (r.drop (s.thn.toNat + s.els.toNat)) := by
  obtain ⟨h1, h2⟩ := h
  rw [fitB_cons] at h2
  simp only [Bool.and_eq_true, decide_eq_true_eq] at h2
  obtain ⟨h0, h3, h4, h5⟩ := h2
  have hm : ∀ t ∈ r, stmtB t = true := fun t ht => h1 t (List.mem_cons_of_mem _ ht)
  exact ⟨goodS (h1 s List.mem_cons_self), h0.1, h0.2.2.1, by omega, ⟨fun t ht => hm t (List.mem_of_mem_take ht), h3⟩, ⟨fun t ht => hm t (List.mem_of_mem_take (List.mem_of_mem_drop ht)), h4⟩, ⟨fun t ht => hm t (List.mem_of_mem_drop ht), h5⟩⟩
theorem name_le {s : ByteArray} (h : nameB s = true) : s.data.toList.length ≤ 20 := by
  have : nameP s := by simpa [nameB] using h
  rw [tx_len]
  exact this.2.1
theorem stmt_name {s : St} (h : stmtB s = true) (hk : s.kind ≤ 3) : s.name.data.toList.length ≤ 20 := by
  unfold stmtB at h
  simp only [Bool.and_eq_true, decide_eq_true_eq] at h
  obtain ⟨⟨⟨⟨⟨⟨h1, h2⟩, h3⟩, h4⟩, h5⟩, h6⟩, h7⟩ := h
  rw [if_pos hk] at h2
  exact name_le h2
theorem stmtT_len {s : St} (h : stmtB s = true) (a b : List UInt8) : (stmtT s a b).length ≤ 40 * (s.e.length + s.f.length) + 60 + a.length + b.length := by
  have g := goodS h
  have he := (shw_pr g.one).len
  unfold stmtT
  split
  · have := stmt_name h (by omega); rw [tx_len] at this; simp; omega
  · split
    · have := stmt_name h (by omega); rw [tx_len] at this; simp; omega
    · split
      · rename_i h3
        have := stmt_name h (by omega); rw [tx_len] at this; have hf := (shw_pr (g.two h3)).len; simp; omega
      · split
        · split <;> (simp; omega)
        · split
          · simp; omega
          · split
            · simp; omega
            · split
              · simp; omega
              · simp; omega
theorem lines_len (n : Nat) : ∀ l : List St, l.length ≤ n → GoodL l → (linesT l).length ≤ 40 * nodeSum l + 60 * l.length := by
  induction n with
  | zero =>
    intro l hl _
    have : l = [] := List.eq_nil_of_length_eq_zero (by omega)
    subst this
    simp [linesT_nil]
  | succ n ih =>
    intro l hl h
    cases l with
    | nil => simp [linesT_nil]
    | cons s r =>
      obtain ⟨g, h0, h1, h2, ga, gb, gc⟩ := h.parts
      have hb := h.1 s List.mem_cons_self
      simp only [List.length_cons] at hl
      have la := ih _ (by simp; omega) ga
      have lb := ih _ (by simp; omega) gb
      have lc := ih _ (by simp; omega) gc
      have ls := stmtT_len hb (linesT (r.take s.thn.toNat)) (linesT ((r.take (s.thn.toNat + s.els.toNat)).drop s.thn.toNat))
      rw [linesT_cons]
      have e1 : nodeSum r = nodeSum (r.take s.thn.toNat) + nodeSum ((r.take (s.thn.toNat + s.els.toNat)).drop s.thn.toNat) + nodeSum (r.drop (s.thn.toNat + s.els.toNat)) := by
        have x1 := nodeSum_append (r.take (s.thn.toNat + s.els.toNat)) (r.drop (s.thn.toNat + s.els.toNat))
        rw [List.take_append_drop] at x1
        have x2 := nodeSum_append ((r.take (s.thn.toNat + s.els.toNat)).take s.thn.toNat) ((r.take (s.thn.toNat + s.els.toNat)).drop s.thn.toNat)
        rw [List.take_append_drop, List.take_take, Nat.min_eq_left (by omega)] at x2
        omega
      simp only [List.length_append, List.length_cons, nodeSum, List.length_take, List.length_drop] at *
      omega

end Go.Proofs.YtjnnepkoeloekaaGreatDoor
