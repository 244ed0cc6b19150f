import Derived.Test.YtkbonhbegpiajaaAS4
import Derived.Test.YtkbonhbegpiajaaLe
import Derived.OwnWalk
namespace Go.Proofs.Ytkbonhbegpiajaa
open Go.RowKit
set_option linter.unusedVariables false
set_option linter.unusedSimpArgs false

theorem is_ex (x : Ins) : ∃ R v, EncIs x.op x.rd x.s1 x.s2 x.im R v ∧ (x.op < 1 ∨ 34 < x.op → v = false) := by
  by_cases h : x.op < 1 ∨ 34 < x.op
  · exact ⟨0, false, is_no _ _ _ _ _ h, fun _ => rfl⟩
  · obtain ⟨R, v, hv⟩ := is_any x.op x.rd x.s1 x.s2 x.im
    exact ⟨R, v, hv, fun h' => absurd h' h⟩
/-- What chooses, given to all that wants it; the last theorem gives it. -/
structure Pick : Type 1 where
  get : (α : Type) → Nonempty α → α
set_option linter.unusedSectionVars false
variable [Inhabited Pick]
theorem ex_p (x : Ins) : Nonempty {p : Int × Bool // EncIs x.op x.rd x.s1 x.s2 x.im p.1 p.2 ∧ (x.op < 1 ∨ 34 < x.op → p.2 = false)} := by
  obtain ⟨R, v, h⟩ := is_ex x
  exact ⟨⟨(R, v), h⟩⟩
def eP (x : Ins) : {p : Int × Bool // EncIs x.op x.rd x.s1 x.s2 x.im p.1 p.2 ∧ (x.op < 1 ∨ 34 < x.op → p.2 = false)} := (default : Pick).get _ (ex_p x)
/-- The word of an instruction, and whether it is valid. -/
def eR (x : Ins) : Int := (eP x).1.1
def eV (x : Ins) : Bool := (eP x).1.2
theorem e_is (x : Ins) : EncIs x.op x.rd x.s1 x.s2 x.im (eR x) (eV x) := (eP x).2.1
theorem eV_op {x : Ins} (h : eV x = true) : 1 ≤ x.op ∧ x.op ≤ 34 := by
  by_cases h' : x.op < 1 ∨ 34 < x.op
  · have := (eP x).2.2 h'
    rw [show (eP x).1.2 = eV x from rfl, h] at this
    cases this
  · omega
theorem encI_any (x : Ins) (w : World) : Calls Try.prog 33 #[.agg #[.int .i64 x.op, .int .i64 x.rd, .int .i64 x.s1, .int .i64 x.s2, .int .i64 x.im]] w fun e w' => e = .returned (.int .u32 (eR x)) ∧ Below w.heap.size w w' := (e_is x).1 w
theorem encS_any (x : Ins) (w : World) : Calls Try.prog 27 #[.agg #[.int .i64 x.op, .int .i64 x.rd, .int .i64 x.s1, .int .i64 x.s2, .int .i64 x.im]] w fun e w' => e = .returned (.int .u32 (eR x)) ∧ Below w.heap.size w w' := (e_is x).2.1 w
theorem vldS_any (x : Ins) (w : World) : Calls Try.prog 24 #[.agg #[.int .i64 x.op, .int .i64 x.rd, .int .i64 x.s1, .int .i64 x.s2, .int .i64 x.im]] w fun e w' => e = .returned (.bool (eV x)) ∧ Below w.heap.size w w' := (e_is x).2.2.1 w
theorem vldI_any (x : Ins) (w : World) : Calls Try.prog 41 #[.agg #[.int .i64 x.op, .int .i64 x.rd, .int .i64 x.s1, .int .i64 x.s2, .int .i64 x.im]] w fun e w' => e = .returned (.bool (eV x)) ∧ Below w.heap.size w w' := vi_impl _ _ _ _ _ _ _ w (e_is x)
def opp (op : Int) : Int := if op % 2 = 0 then op + 1 else op - 1
/-- The words of an item. -/
def wds (it : It) (far : Int) (l : Bool) : List Int :=
  if it.kind = 1 then [eR it.ins]
  else if it.kind = 3 then (if l then [eR { it.ins with op := opp it.ins.op, im := 8 }, eR ⟨2, 0, 0, 0, far - 4⟩] else [eR { it.ins with im := far }])
  else if it.kind = 4 then [eR ⟨2, 0, 0, 0, far⟩]
  else if it.kind = 5 then [eR ⟨2, 1, 0, 0, far⟩]
  else []
theorem wds_len (it : It) (far : Int) (l : Bool) : (wds it far l).length ≤ 2 := by
  unfold wds
  split
  · simp
  · split
    · split <;> simp
    · split
      · simp
      · split <;> simp
/-- A slice whose cells are these words. -/
def USrc (w : World) (v : Value) (us : List Int) : Prop := ∃ a cap, v = .slice a us.length cap ∧ (a = none → us = []) ∧ ∀ ad, a = some ad → ∀ j u, (us.map (Value.int .u32))[j]? = some u → w.cell? (ad.add j) = some u
theorem usrc_nil (w : World) : USrc w (.slice none 0 0) [] := ⟨none, 0, rfl, fun _ => rfl, fun ad h => by cases h⟩
theorem addr_add (g j : Nat) : (⟨g, 0, none⟩ : Addr).add j = ⟨g, j, none⟩ := by simp only [Addr.add]; split <;> simp_all
theorem usrc_1 (w : World) (x : Int) (t : TypeId) : USrc (w.alloc (.cells #[.int .u32 x] t)) (.slice (some ⟨w.heap.size, 0, none⟩) 1 1) [x] := by
  refine ⟨_, 1, rfl, (fun h => by cases h), fun ad h j u hj => ?_⟩
  obtain rfl := Option.some.inj h
  rw [addr_add]
  match j with
  | 0 => simp at hj; subst hj; simp
  | (j + 1) => simp at hj
theorem usrc_2 (w : World) (x y : Int) (t : TypeId) : USrc (w.alloc (.cells #[.int .u32 x, .int .u32 y] t)) (.slice (some ⟨w.heap.size, 0, none⟩) 2 2) [x, y] := by
  refine ⟨_, 2, rfl, (fun h => by cases h), fun ad h j u hj => ?_⟩
  obtain rfl := Option.some.inj h
  rw [addr_add]
  match j with
  | 0 => simp at hj; subst hj; simp
  | 1 => simp at hj; subst hj; simp
  | (j + 2) => simp at hj

set_option maxHeartbeats 1000000 in
theorem jump_any (k d : Int) (w : World) : Calls Try.prog 35 #[.int .i64 k, .int .i64 d] w fun e w' => e = .returned (.int .u32 (eR ⟨2, k, 0, 0, d⟩)) ∧ Below w.heap.size w w' := by
  have H : Hid (∀ w : World, Calls Try.prog 33 #[.agg #[.int .i64 2, .int .i64 k, .int .i64 0, .int .i64 0, .int .i64 d]] w fun e w' => e = .returned (.int .u32 (eR ⟨2, k, 0, 0, d⟩)) ∧ Below w.heap.size w w') := fun w => encI_any ⟨2, k, 0, 0, d⟩ w
  go_enter Try.func35, Try.ntmps35
  go_wp2_with fail
  refine (H.out _).mono ?_
  rintro e w1 ⟨rfl, hb⟩
  go_wp2_with fail
  go_ret
  exact ⟨rfl, hb⟩
set_option maxHeartbeats 1000000 in
theorem opp_any (op : Int) (h : 4 ≤ op ∧ op ≤ 9) (w : World) : Calls Try.prog 45 #[.int .i64 op] w fun e w' => e = .returned (.int .i64 (opp op)) ∧ w' = w := by
  obtain ⟨h1, h2⟩ := h
  have hc : op = 4 ∨ op = 5 ∨ op = 6 ∨ op = 7 ∨ op = 8 ∨ op = 9 := by omega
  rcases hc with rfl | rfl | rfl | rfl | rfl | rfl
  all_goals
    go_enter Try.func45, Try.ntmps45
    go_wp2_with fail
    go_ret
    exact ⟨rfl, rfl⟩

end Go.Proofs.Ytkbonhbegpiajaa
