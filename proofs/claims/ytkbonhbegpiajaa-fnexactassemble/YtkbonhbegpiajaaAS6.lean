import Derived.Test.YtkbonhbegpiajaaAS5
namespace Go.Proofs.Ytkbonhbegpiajaa
open Go.RowKit
set_option linter.unusedVariables false
set_option linter.unusedSimpArgs false
set_option linter.unusedSectionVars false
variable [Inhabited Pick]

def zeroB (x : Ins) : Bool := decide (x.op = 0 ∧ x.rd = 0 ∧ x.s1 = 0 ∧ x.s2 = 0 ∧ x.im = 0)
/-- Whether an item is as it should be. -/
def goodI (it : It) : Bool :=
  if it.label < 0 then false
  else if it.kind = 1 then eV it.ins && decide (it.label = 0)
  else if it.kind = 3 then decide (4 ≤ it.ins.op ∧ it.ins.op ≤ 9) && decide (it.ins.im = 0) && eV it.ins
  else if it.kind = 2 ∨ it.kind = 4 ∨ it.kind = 5 then zeroB it.ins
  else false
/-- An item as a value. -/
def itv (it : It) : Value := .agg #[.int .i64 it.kind, .int .i64 it.ins.op, .int .i64 it.ins.rd, .int .i64 it.ins.s1, .int .i64 it.ins.s2, .int .i64 it.ins.im, .int .i64 it.label]
theorem one_belowA {w w' : World} {a : Obj} (h : Below (w.heap.size + 1) (w.alloc a) w') : Below w.heap.size w w' :=
  ((Below.refl _ _).alloc (Nat.le_refl _) a).trans (h.mono (by omega))
theorem box7 {w w' : World} {t : TypeId} {a b c d e f g : Value} (h : Below (w.heap.size + 1) (w.alloc (.cells #[a, b, c, d, e, f, g] t)) w') :
    w'.cell? ⟨w.heap.size, 0, none⟩ = some a ∧ w'.cell? ⟨w.heap.size, 1, none⟩ = some b ∧ w'.cell? ⟨w.heap.size, 2, none⟩ = some c ∧ w'.cell? ⟨w.heap.size, 3, none⟩ = some d ∧ w'.cell? ⟨w.heap.size, 4, none⟩ = some e ∧ w'.cell? ⟨w.heap.size, 5, none⟩ = some f ∧ w'.cell? ⟨w.heap.size, 6, none⟩ = some g := by
  refine ⟨?_, ?_, ?_, ?_, ?_, ?_, ?_⟩ <;> (rw [h.cell (by simp)]; simp)
set_option maxHeartbeats 4000000 in
theorem vz_yes (k lb : Int) (w : World) (hk : k = 2 ∨ k = 4 ∨ k = 5) (h : 0 ≤ lb) : Calls Try.prog 29 #[.agg #[.int .i64 k, .int .i64 0, .int .i64 0, .int .i64 0, .int .i64 0, .int .i64 0, .int .i64 lb]] w fun e w' => e = .returned (.bool true) ∧ Below w.heap.size w w' := by
  rcases hk with rfl | rfl | rfl
  all_goals
    go_enter Try.func29, Try.ntmps29
    go_wp2_with fail
    go_ret
    exact ⟨rfl, (Below.refl _ _).alloc (Nat.le_refl _) _⟩
set_option maxHeartbeats 4000000 in
theorem vz_no (k op rd s1 s2 im lb : Int) (w : World) (hk : k = 2 ∨ k = 4 ∨ k = 5) (h : 0 ≤ lb) (hz : ¬ (op = 0 ∧ rd = 0 ∧ s1 = 0 ∧ s2 = 0 ∧ im = 0)) : Calls Try.prog 29 #[.agg #[.int .i64 k, .int .i64 op, .int .i64 rd, .int .i64 s1, .int .i64 s2, .int .i64 im, .int .i64 lb]] w fun e w' => e = .returned (.bool false) ∧ Below w.heap.size w w' := by
  have hc : ¬ op = 0 ∨ ¬ rd = 0 ∨ ¬ s1 = 0 ∨ ¬ s2 = 0 ∨ ¬ im = 0 := by omega
  clear hz
  rcases hk with rfl | rfl | rfl <;> rcases hc with hc | hc | hc | hc | hc
  all_goals
    go_enter Try.func29, Try.ntmps29
    go_wp2_with fail
    go_ret
    exact ⟨rfl, (Below.refl _ _).alloc (Nat.le_refl _) _⟩
set_option maxHeartbeats 4000000 in
theorem vneg (k op rd s1 s2 im lb : Int) (w : World) (h : lb < 0) : Calls Try.prog 29 #[.agg #[.int .i64 k, .int .i64 op, .int .i64 rd, .int .i64 s1, .int .i64 s2, .int .i64 im, .int .i64 lb]] w fun e w' => e = .returned (.bool false) ∧ Below w.heap.size w w' := by
  go_enter Try.func29, Try.ntmps29
  go_wp2_with fail
  go_ret
  exact ⟨rfl, (Below.refl _ _).alloc (Nat.le_refl _) _⟩
set_option maxHeartbeats 4000000 in
theorem velse (k op rd s1 s2 im lb : Int) (w : World) (h : 0 ≤ lb) (h1 : ¬ k = 1) (h2 : ¬ k = 2) (h3 : ¬ k = 3) (h4 : ¬ k = 4) (h5 : ¬ k = 5) : Calls Try.prog 29 #[.agg #[.int .i64 k, .int .i64 op, .int .i64 rd, .int .i64 s1, .int .i64 s2, .int .i64 im, .int .i64 lb]] w fun e w' => e = .returned (.bool false) ∧ Below w.heap.size w w' := by
  go_enter Try.func29, Try.ntmps29
  go_wp2_with fail
  go_ret
  exact ⟨rfl, (Below.refl _ _).alloc (Nat.le_refl _) _⟩

set_option maxHeartbeats 4000000 in
theorem vitem_any (it : It) (w : World) : Calls Try.prog 29 #[itv it] w fun e w' => e = .returned (.bool (goodI it)) ∧ Below w.heap.size w w' := by
  obtain ⟨k, x, lb⟩ := it
  by_cases hn : lb < 0
  · rw [show goodI ⟨k, x, lb⟩ = false from if_pos hn]
    exact vneg k x.op x.rd x.s1 x.s2 x.im lb w hn
  have HV : Hid (∀ w : World, Calls Try.prog 41 #[.agg #[.int .i64 x.op, .int .i64 x.rd, .int .i64 x.s1, .int .i64 x.s2, .int .i64 x.im]] w fun e w' => e = .returned (.bool (eV x)) ∧ Below w.heap.size w w') := fun w => vldI_any x w
  by_cases h1 : k = 1
  · subst h1
    rw [show goodI ⟨1, x, lb⟩ = (eV x && decide (lb = 0)) by simp [goodI, hn]]
    show Calls _ _ #[.agg #[.int .i64 1, .int .i64 x.op, .int .i64 x.rd, .int .i64 x.s1, .int .i64 x.s2, .int .i64 x.im, .int .i64 lb]] _ _
    generalize eV x = b at HV ⊢
    obtain ⟨op, rd, s1, s2, im⟩ := x
    simp only at HV ⊢
    go_enter Try.func29, Try.ntmps29
    go_wp2_with fail
    refine (HV.out _).mono ?_
    rintro e w1 ⟨rfl, hb1⟩
    simp only [World.size_alloc] at hb1
    have hB1 := one_belowA hb1
    obtain ⟨-, -, -, -, -, -, c6⟩ := box7 hb1
    cases b
    · go_wp2_with fail
      go_ret
      exact ⟨rfl, hB1⟩
    · by_cases h0 : lb = 0
      · subst h0
        go_wp2_with fail
        go_ret
        exact ⟨rfl, hB1⟩
      · have HD : Hid (decide (lb = 0) = false) := decide_eq_false h0
        go_wp2_with fail
        go_ret
        exact ⟨ret_boolA (by rw [HD.out]; simpa using h0), hB1⟩
  by_cases h3 : k = 3
  · subst h3
    rw [show goodI ⟨3, x, lb⟩ = (decide (4 ≤ x.op ∧ x.op ≤ 9) && decide (x.im = 0) && eV x) by simp [goodI, hn]]
    show Calls _ _ #[.agg #[.int .i64 3, .int .i64 x.op, .int .i64 x.rd, .int .i64 x.s1, .int .i64 x.s2, .int .i64 x.im, .int .i64 lb]] _ _
    generalize eV x = b at HV ⊢
    obtain ⟨op, rd, s1, s2, im⟩ := x
    simp only at HV ⊢
    by_cases ho1 : 4 ≤ op
    · by_cases ho2 : op ≤ 9
      · by_cases hi : im = 0
        · subst hi
          rw [show (decide (4 ≤ op ∧ op ≤ 9) && decide ((0 : Int) = 0) && b) = b by simp [ho1, ho2]]
          go_enter Try.func29, Try.ntmps29
          go_wp2_with fail
          refine (HV.out _).mono ?_
          rintro e w1 ⟨rfl, hb1⟩
          simp only [World.size_alloc] at hb1
          have hB1 := one_belowA hb1
          cases b
          · go_wp2_with fail
            go_ret
            exact ⟨rfl, hB1⟩
          · go_wp2_with fail
            go_ret
            exact ⟨rfl, hB1⟩
        · rw [show (decide (4 ≤ op ∧ op ≤ 9) && decide (im = 0) && b) = false by simp [hi]]
          go_enter Try.func29, Try.ntmps29
          go_wp2_with fail
          go_ret
          exact ⟨rfl, (Below.refl _ _).alloc (Nat.le_refl _) _⟩
      · rw [show (decide (4 ≤ op ∧ op ≤ 9) && decide (im = 0) && b) = false by simp [ho2]]
        go_enter Try.func29, Try.ntmps29
        go_wp2_with fail
        go_ret
        exact ⟨rfl, (Below.refl _ _).alloc (Nat.le_refl _) _⟩
    · rw [show (decide (4 ≤ op ∧ op ≤ 9) && decide (im = 0) && b) = false by simp [ho1]]
      go_enter Try.func29, Try.ntmps29
      go_wp2_with fail
      go_ret
      exact ⟨rfl, (Below.refl _ _).alloc (Nat.le_refl _) _⟩
  by_cases h2 : k = 2 ∨ k = 4 ∨ k = 5
  · have hg : goodI ⟨k, x, lb⟩ = zeroB x := by
      unfold goodI
      rw [if_neg hn, if_neg h1, if_neg h3, if_pos h2]
    rw [hg]
    by_cases hz : x.op = 0 ∧ x.rd = 0 ∧ x.s1 = 0 ∧ x.s2 = 0 ∧ x.im = 0
    · rw [show zeroB x = true from decide_eq_true hz]
      obtain ⟨e1, e2, e3, e4, e5⟩ := hz
      show Calls _ _ #[.agg #[.int .i64 k, .int .i64 x.op, .int .i64 x.rd, .int .i64 x.s1, .int .i64 x.s2, .int .i64 x.im, .int .i64 lb]] _ _
      rw [e1, e2, e3, e4, e5]
      exact vz_yes k lb w h2 (by omega)
    · rw [show zeroB x = false from decide_eq_false hz]
      exact vz_no k x.op x.rd x.s1 x.s2 x.im lb w h2 (by omega) hz
  · have hg : goodI ⟨k, x, lb⟩ = false := by
      unfold goodI
      rw [if_neg hn, if_neg h1, if_neg h3, if_neg h2]
    rw [hg]
    exact velse k x.op x.rd x.s1 x.s2 x.im lb w (by omega) h1 (fun h => h2 (.inl h)) h3 (fun h => h2 (.inr (.inl h))) (fun h => h2 (.inr (.inr h)))

end Go.Proofs.Ytkbonhbegpiajaa
