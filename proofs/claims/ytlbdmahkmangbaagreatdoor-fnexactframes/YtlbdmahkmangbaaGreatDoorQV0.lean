import Derived.WalkKit
namespace Go.Proofs.YtlbdmahkmangbaaGreatDoor
set_option linter.unusedVariables false

structure Nd where
  kind : Int
  val : Int
  name : ByteArray
structure St where
  kind : Int
  name : ByteArray
  e : List Nd
  f : List Nd
  thn : Int
  els : Int
structure Fu where
  name : ByteArray
  params : List ByteArray
  body : List St
structure Gl where
  name : ByteArray
  size : Int
structure Tr where
  globals : List Gl
  funcs : List Fu

def smallB (c : Int) : Bool := decide (97 ≤ c ∧ c ≤ 122 ∨ c = 95)
def digitB (c : Int) : Bool := decide (48 ≤ c ∧ c ≤ 57)
def laterB (c : Int) : Bool := smallB c || digitB c
def resB (s : ByteArray) : Bool :=
  s.toList == [105, 110, 116] || s.toList == [105, 102] || s.toList == [101, 108, 115, 101] || s.toList == [119, 104, 105, 108, 101] || s.toList == [114, 101, 116, 117, 114, 110] || s.toList == [105, 110] || s.toList == [111, 117, 116]
/-- Byte k of a text, as a number. -/
def byteAt (s : ByteArray) (k : Nat) : Int := ((s.data.toList.getD k 0).toNat : Int)
def laterTo (s : ByteArray) (k : Nat) : Prop := ∀ j, j < k → laterB (byteAt s j) = true
def nameP (s : ByteArray) : Prop := 1 ≤ s.size ∧ s.size ≤ 20 ∧ smallB (byteAt s 0) = true ∧ (∀ j, j < s.size → laterB (byteAt s j) = true) ∧ resB s = false
def nameB (s : ByteArray) : Bool := @decide (nameP s) (inferInstanceAs (Decidable (1 ≤ s.size ∧ s.size ≤ 20 ∧ smallB (byteAt s 0) = true ∧ (∀ j, j < s.size → laterB (byteAt s j) = true) ∧ resB s = false)))

def arity (n : Nd) : Int := if n.kind = 3 ∨ n.kind = 6 then 1 else if n.kind = 4 then n.val else if n.kind = 7 ∨ n.kind = 8 ∨ n.kind = 9 then 2 else 0
/-- Name and value as a node of its kind has them. -/
def nodeB (n : Nd) : Bool :=
  if n.kind = 1 then decide (-2147483648 ≤ n.val ∧ n.val ≤ 2147483647) && n.name.toList == []
  else if n.kind = 2 ∨ n.kind = 3 then decide (n.val = 0) && nameB n.name
  else if n.kind = 4 then decide (0 ≤ n.val ∧ n.val ≤ 6) && nameB n.name
  else if n.kind = 6 then decide (0 ≤ n.val ∧ n.val ≤ 2) && n.name.toList == []
  else if n.kind = 7 then decide (0 ≤ n.val ∧ n.val ≤ 15) && n.name.toList == []
  else if n.kind = 5 ∨ n.kind = 8 ∨ n.kind = 9 then decide (n.val = 0) && n.name.toList == []
  else false

theorem arity_good {n : Nd} (h : nodeB n = true) : 0 ≤ arity n ∧ arity n ≤ 6 := by
  unfold nodeB at h
  unfold arity
  by_cases h4 : n.kind = 4
  · simp [h4] at h ⊢
    omega
  · split <;> (try split) <;> (try split) <;> omega

/-- How many are whole behind the nodes, or nothing where one lacks operands or is none. -/
def wholeTo : List Nd → Int → Option Int
  | [], k => some k
  | n :: r, k => if nodeB n = true ∧ arity n ≤ k then wholeTo r (k + 1 - arity n) else none
def oneB (e : List Nd) : Bool := wholeTo e 0 == some 1

theorem kind_good {n : Nd} (h : nodeB n = true) : 1 ≤ n.kind ∧ n.kind ≤ 9 := by
  by_cases hk : n.kind < 1 ∨ 9 < n.kind
  · unfold nodeB at h
    rw [if_neg (by omega), if_neg (by omega), if_neg (by omega), if_neg (by omega), if_neg (by omega), if_neg (by omega)] at h
    cases h
  · omega

theorem wholeTo_append (a b : List Nd) (k : Int) : wholeTo (a ++ b) k = (wholeTo a k).bind (wholeTo b) := by
  induction a generalizing k with
  | nil => rfl
  | cons n r ih =>
    simp only [List.cons_append, wholeTo]
    split
    · exact ih _
    · rfl

theorem wholeTo_bd (a : List Nd) (k q : Int) (h : wholeTo a k = some q) (hk : 0 ≤ k) : 0 ≤ q ∧ q ≤ k + a.length := by
  induction a generalizing k with
  | nil => simp only [wholeTo, Option.some.injEq] at h; subst h; simp; omega
  | cons n r ih =>
    simp only [wholeTo] at h
    split at h
    · rename_i hn
      have := arity_good hn.1
      have := ih _ h (by omega)
      simp only [List.length_cons]
      omega
    · cases h

theorem take_succ {α : Type} (l : List α) (k : Nat) (h : k < l.length) : l.take (k + 1) = l.take k ++ [l[k]] := by
  rw [List.take_succ_eq_append_getElem h]

theorem wholeTo_step (l : List Nd) (k : Nat) (q : Int) (h : k < l.length) (hq : wholeTo (l.take k) 0 = some q) :
    wholeTo (l.take (k + 1)) 0 = if nodeB l[k] = true ∧ arity l[k] ≤ q then some (q + 1 - arity l[k]) else none := by
  rw [take_succ l k h, wholeTo_append, hq]
  simp [wholeTo]

theorem oneB_none (l : List Nd) (k : Nat) (h : wholeTo (l.take k) 0 = none) : oneB l = false := by
  have : wholeTo l 0 = none := by
    rw [← List.take_append_drop k l, wholeTo_append, h]; rfl
  simp [oneB, this]

theorem oneB_some (l : List Nd) (q : Int) (h : wholeTo (l.take l.length) 0 = some q) : oneB l = (q == 1) := by
  rw [List.take_length] at h
  simp only [oneB, h]
  apply Bool.eq_iff_iff.2
  simp

end Go.Proofs.YtlbdmahkmangbaaGreatDoor
