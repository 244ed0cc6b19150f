import Derived.WalkKit
namespace Go.Proofs.YtnpidjamplmgjaaGreatDoor
open Go.RowKit
set_option linter.unusedVariables false
set_option linter.unusedSimpArgs false
set_option maxRecDepth 100000
set_option maxHeartbeats 16000000
abbrev Bl (w w' : World) : Prop := Below w.heap.size w w'
theorem hide {p : Prop} (h : p) : Hid p := h
theorem l_a {α : Type _} {a b : List α} : (a ++ b).length = a.length + b.length := List.length_append
theorem l_c {α : Type _} {a : α} {b : List α} : (a :: b).length = b.length + 1 := List.length_cons
theorem l_n {α : Type _} : ([] : List α).length = 0 := List.length_nil
theorem bel_a (w : World) (o : Obj) : Below w.heap.size w (w.alloc o) := (Below.refl _ _).alloc (Nat.le_refl _) _
section
/-- What chooses, given to all that wants it; the last theorem gives it. -/
structure Pick : Type 1 where
  get : (α : Type) → Nonempty α → α
set_option linter.unusedSectionVars false
variable [Inhabited Pick]
def pdQ (p : Prop) : Decidable p := (default : Pick).get (Decidable p) ⟨Classical.propDecidable p⟩
theorem pickN {α : Type} (d : α) (p : α → Prop) : Nonempty {x : α // (∃ y, p y) → p x} := by
  by_cases h : ∃ y, p y
  · obtain ⟨y, hy⟩ := h
    exact ⟨⟨y, fun _ => hy⟩⟩
  · exact ⟨⟨d, fun h' => absurd h' h⟩⟩
def epsQ {α : Type} (d : α) (p : α → Prop) : α := ((default : Pick).get {x : α // (∃ y, p y) → p x} (pickN d p)).1
theorem epsQs {α : Type} {d : α} {p : α → Prop} (h : ∃ x, p x) : p (epsQ d p) := ((default : Pick).get {x : α // (∃ y, p y) → p x} (pickN d p)).2 h
end
theorem o_{p:Prop}(h:p:=by omega):p:=h
end Go.Proofs.YtnpidjamplmgjaaGreatDoor
