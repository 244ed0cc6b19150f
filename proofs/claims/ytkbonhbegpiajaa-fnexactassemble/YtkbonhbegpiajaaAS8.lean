import Derived.Test.YtkbonhbegpiajaaAS7
import Derived.Test.YtkbonhbegpiajaaAF
import Derived.Maps.OwnSet
import Derived.Maps.OwnOps
namespace Go.Proofs.Ytkbonhbegpiajaa
open Go.RowKit
set_option linter.unusedVariables false
set_option linter.unusedSimpArgs false
set_option linter.unusedSectionVars false
variable [Inhabited Pick]

/-- The map of the labels' places. -/
structure LabIs (D : DataW Unit) (its : List It) : Prop where
  map : Maps.IsMap D
  has : ∀ lab, Maps.has D (.int .i64 lab) = !(posL its lab).isEmpty
  val : ∀ lab k, posL its lab = [k] → D.atKey (.int .i64 lab) (.lit (.int .i64 0)) = .lit (.int .i64 (k : Int))
  one : ∀ lab, (posL its lab).length ≤ 1
theorem LabIs.nil : LabIs (.map []) [] := ⟨Maps.isMap_empty, fun lab => rfl, fun lab k h => by simp [posL] at h, fun lab => by simp [posL]⟩
theorem LabIs.skip {D : DataW Unit} {its : List It} (h : LabIs D its) {x : It} (hx : x.kind ≠ 2) : LabIs D (its ++ [x]) := by
  have key : ∀ lab, posL (its ++ [x]) lab = posL its lab := fun lab => by
    rw [posL_snoc]
    simp [isL, hx]
  exact ⟨h.map, fun lab => by rw [key]; exact h.has lab, fun lab k hk => by rw [key] at hk; exact h.val lab k hk, fun lab => by rw [key]; exact h.one lab⟩
theorem LabIs.put {D : DataW Unit} {its : List It} (h : LabIs D its) {x : It} (hx : x.kind = 2) (hn : posL its x.label = []) : LabIs (D.put (.int .i64 x.label) (.lit (.int .i64 (its.length : Int)))) (its ++ [x]) := by
  have same : posL (its ++ [x]) x.label = [its.length] := by rw [posL_snoc, hn]; simp [isL, hx]
  have other : ∀ lab, lab ≠ x.label → posL (its ++ [x]) lab = posL its lab := fun lab hl => by
    rw [posL_snoc]
    have : isL x lab = false := decide_eq_false (fun h => hl h.2.symm)
    rw [this]; simp
  have hne : ∀ lab, lab ≠ x.label → (Lit.int .i64 lab) ≠ .int .i64 x.label := fun lab hl e => hl (by injection e)
  refine ⟨h.map.put _ _, fun lab => ?_, fun lab k hk => ?_, fun lab => ?_⟩
  · by_cases e : lab = x.label
    · subst e
      rw [Maps.has_put_same (k := .int .i64 x.label) h.map trivial, same]
      rfl
    · rw [Maps.has_put_other (hne lab e), other lab e]
      exact h.has lab
  · by_cases e : lab = x.label
    · subst e
      rw [same] at hk
      rw [Maps.atKey_put_same (k := .int .i64 x.label) h.map trivial]
      simp at hk
      rw [hk]
    · rw [Maps.atKey_put_other (hne lab e)]
      rw [other lab e] at hk
      exact h.val lab k hk
  · by_cases e : lab = x.label
    · subst e
      rw [same]; simp
    · rw [other lab e]
      exact h.one lab
theorem lab_look {W : World} {b nn : Nat} {D : DataW Unit} {its : List It} (hown : W.ownsMap Try.prog 2 (plainElem (H := Unit) Try.prog 3) b nn D) (hN : LabIs D its) {lab : Int} (hw : (Lit.int .i64 lab).wf = true) {k : Nat} (h : posL its lab = [k]) :
    (Instr.lookup 69 (.map (some b)) (.int .i64 lab) true).run Try.prog W = .ok (.tuple #[.int .i64 (k : Int), .bool true]) W := by
  obtain ⟨v, ps, hrun, hv⟩ := hown.look_ok (Maps.int_keyed Try.underlying2) Try.underlying69 (Try.zeroValue3 _) (plainElem_int Try.underlying3 (by decide)) (Maps.keyOf_int_mk Try.underlying2 hw)
  rw [hN.val lab k h] at hv
  obtain ⟨c, rfl, hc, _⟩ := plainElem_int_inv Try.underlying3 hv
  simp only [Prod.mk.injEq, DataW.lit.injEq, Lit.int.injEq, true_and] at hc
  obtain ⟨hc, -⟩ := hc
  subst hc
  have hh := hN.has lab
  rw [h] at hh
  rw [hh] at hrun
  exact hrun
theorem lab_none {W : World} {b nn : Nat} {D : DataW Unit} {its : List It} (hown : W.ownsMap Try.prog 2 (plainElem (H := Unit) Try.prog 3) b nn D) (hN : LabIs D its) {lab : Int} (hw : (Lit.int .i64 lab).wf = true) (h : posL its lab = []) :
    (Instr.lookup 69 (.map (some b)) (.int .i64 lab) true).run Try.prog W = .ok (.tuple #[.int .i64 0, .bool false]) W := by
  obtain ⟨v, ps, hrun, hv⟩ := hown.look_ok (Maps.int_keyed Try.underlying2) Try.underlying69 (Try.zeroValue3 _) (plainElem_int Try.underlying3 (by decide)) (Maps.keyOf_int_mk Try.underlying2 hw)
  have hh := hN.has lab
  rw [h] at hh
  rw [Maps.atKey_of_not_has hh] at hv
  obtain ⟨c, rfl, hc, _⟩ := plainElem_int_inv Try.underlying3 hv
  simp only [Prod.mk.injEq, DataW.lit.injEq, Lit.int.injEq, true_and] at hc
  obtain ⟨hc, -⟩ := hc
  subst hc
  rw [hh] at hrun
  exact hrun
theorem LabIs.cases {D : DataW Unit} {its : List It} (h : LabIs D its) (lab : Int) : posL its lab = [] ∨ ∃ k, posL its lab = [k] := by
  have := h.one lab
  match e : posL its lab with
  | [] => exact .inl rfl
  | [k] => exact .inr ⟨k, rfl⟩
  | a :: b :: r => rw [e] at this; simp at this
/-- Items in a slice, seven cells each; their numbers are int64. -/
def wfI (x : It) : Prop := (Lit.int .i64 x.label).wf = true
def ItemsC (w : World) (b off : Nat) (its : List It) : Prop := ∀ j (h : j < its.length),
  w.cell? ⟨b, off + j * 7, none⟩ = some (.int .i64 its[j].kind) ∧ w.cell? ⟨b, off + j * 7 + 1, none⟩ = some (.int .i64 its[j].ins.op) ∧ w.cell? ⟨b, off + j * 7 + 2, none⟩ = some (.int .i64 its[j].ins.rd) ∧ w.cell? ⟨b, off + j * 7 + 3, none⟩ = some (.int .i64 its[j].ins.s1) ∧ w.cell? ⟨b, off + j * 7 + 4, none⟩ = some (.int .i64 its[j].ins.s2) ∧ w.cell? ⟨b, off + j * 7 + 5, none⟩ = some (.int .i64 its[j].ins.im) ∧ w.cell? ⟨b, off + j * 7 + 6, none⟩ = some (.int .i64 its[j].label)
theorem ItemsC.below {w w' : World} {b off : Nat} {its : List It} (h : ItemsC w b off its) (hb : Below w.heap.size w w') : ItemsC w' b off its := by
  intro j hj
  obtain ⟨c0, c1, c2, c3, c4, c5, c6⟩ := h j hj
  have hlt := World.block_lt_of_cell? _ _ c0
  exact ⟨(hb.cell hlt).trans c0, (hb.cell (p := ⟨b, off + j * 7 + 1, none⟩) hlt).trans c1, (hb.cell (p := ⟨b, off + j * 7 + 2, none⟩) hlt).trans c2, (hb.cell (p := ⟨b, off + j * 7 + 3, none⟩) hlt).trans c3, (hb.cell (p := ⟨b, off + j * 7 + 4, none⟩) hlt).trans c4, (hb.cell (p := ⟨b, off + j * 7 + 5, none⟩) hlt).trans c5, (hb.cell (p := ⟨b, off + j * 7 + 6, none⟩) hlt).trans c6⟩
def Items (w : World) (v : Value) (its : List It) : Prop := ∃ a cap, v = .slice a its.length cap ∧ its.length ≤ cap ∧ cap ≤ 9223372036854775807 ∧ (0 < its.length → ∃ b off, a = some ⟨b, off, none⟩ ∧ ItemsC w b off its)
theorem Items.below {w w' : World} {v : Value} {its : List It} (h : Items w v its) (hb : Below w.heap.size w w') : Items w' v its := by
  obtain ⟨a, cap, rfl, hl, hm, h⟩ := h
  refine ⟨a, cap, rfl, hl, hm, fun h0 => ?_⟩
  obtain ⟨b, off, rfl, hc⟩ := h h0
  exact ⟨b, off, rfl, hc.below hb⟩

end Go.Proofs.Ytkbonhbegpiajaa
