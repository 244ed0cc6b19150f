/-
  FnExactApply: the walk out of the two contracts, and the row's frame.
-/
import Derived.Test.YtgcabefonhechaaRows
import Derived.Test.YtgcabefonhechaaAp
import Derived.WalkKit
import Derived.ProofKit
import Derived.OpenShut
namespace Go.Proofs.Ytgcabefonhechaa.fnExactApply
open Go.ChangeShapes Go.WideShapes Go.ChangeAt Go.RowKit
set_option linter.unusedVariables false      -- a walk need not use every 'w<i>' (that an integer argument fits its kind)

theorem own : ownKnob Try.prog.godebug = none := by kernel_rfl

theorem both (op a b : Int) : ∃ R : Int, (∀ w, Calls Try.prog 5 #[.int .i64 op, .int .i64 a, .int .i64 b] w fun e w' => e = .returned (.int .i64 R) ∧ w' = w) ∧
    (∀ w, Calls Try.prog 4 #[.int .i64 op, .int .i64 a, .int .i64 b] w fun e w' => e = .returned (.int .i64 R) ∧ w' = w) := by
  by_cases h : op < 0 ∨ 15 < op
  · exact ⟨0, fun w => iN op a b w h, fun w => sN op a b w h⟩
  · obtain ⟨n, rfl⟩ : ∃ n : Nat, op = n := ⟨op.toNat, by omega⟩
    have hn : n < 16 := by omega
    clear h
    match n, hn with
    | 0, _ => exact ⟨_, fun w => i0 a b w, fun w => s0 a b w⟩
    | 1, _ => by_cases h : wrap32 b = 0; exact ⟨_, fun w => i1z a b w h, fun w => s1z a b w h⟩; exact ⟨_, fun w => i1n a b w h, fun w => s1n a b w h⟩
    | 2, _ => by_cases h : wrap32 b = 0; exact ⟨_, fun w => i2z a b w h, fun w => s2z a b w h⟩; exact ⟨_, fun w => i2n a b w h, fun w => s2n a b w h⟩
    | 3, _ => exact ⟨_, fun w => i3 a b w, fun w => s3 a b w⟩
    | 4, _ => exact ⟨_, fun w => i4 a b w, fun w => s4 a b w⟩
    | 5, _ => exact ⟨_, fun w => i5 a b w, fun w => s5 a b w⟩
    | 6, _ => exact ⟨_, fun w => i6 a b w, fun w => s6 a b w⟩
    | 7, _ => by_cases h : wrap32 a < wrap32 b; exact ⟨_, fun w => i7t a b w h, fun w => s7t a b w h⟩; exact ⟨_, fun w => i7f a b w h, fun w => s7f a b w h⟩
    | 8, _ => by_cases h : wrap32 a ≤ wrap32 b; exact ⟨_, fun w => i8t a b w h, fun w => s8t a b w h⟩; exact ⟨_, fun w => i8f a b w h, fun w => s8f a b w h⟩
    | 9, _ => by_cases h : wrap32 b < wrap32 a; exact ⟨_, fun w => i9t a b w h, fun w => s9t a b w h⟩; exact ⟨_, fun w => i9f a b w h, fun w => s9f a b w h⟩
    | 10, _ => by_cases h : wrap32 b ≤ wrap32 a; exact ⟨_, fun w => i10t a b w h, fun w => s10t a b w h⟩; exact ⟨_, fun w => i10f a b w h, fun w => s10f a b w h⟩
    | 11, _ => by_cases h : wrap32 a = wrap32 b; exact ⟨_, fun w => i11t a b w h, fun w => s11t a b w h⟩; exact ⟨_, fun w => i11f a b w h, fun w => s11f a b w h⟩
    | 12, _ => by_cases h : wrap32 a ≠ wrap32 b; exact ⟨_, fun w => i12t a b w h, fun w => s12t a b w h⟩; exact ⟨_, fun w => i12f a b w h, fun w => s12f a b w h⟩
    | 13, _ => exact ⟨_, fun w => i13 a b w, fun w => s13 a b w⟩
    | 14, _ => exact ⟨_, fun w => i14 a b w, fun w => s14 a b w⟩
    | 15, _ => exact ⟨_, fun w => i15 a b w, fun w => s15 a b w⟩
    | (n + 16), h => exact absurd h (by omega)

/-! ### STEP 1: THE WALK: the Go text returns true. 'Grown w w'': the world has at most new blocks (Derived/RowKit3.lean). Part the cases AHEAD of 'go_enter' where a test parts the walk; take each callee by a contract of your own. -/
theorem walk (a0 : Int) (a1 : Int) (a2 : Int) (w0 : (Lit.int .i64 a0).wf = true) (w1 : (Lit.int .i64 a1).wf = true) (w2 : (Lit.int .i64 a2).wf = true) (w : World) :
    Calls Try.prog 3 #[.int .i64 a0, .int .i64 a1, .int .i64 a2] w fun e w' => e = .returned (.bool true) ∧ Grown w w' := by
  obtain ⟨R, hi, hs⟩ := both a0 a1 a2
  have HI : Hid _ := hi
  have HS : Hid _ := hs
  clear hi hs
  go_enter Try.func3, Try.ntmps3
  go_wp2_with fail
  refine (HS.out _).mono ?_
  rintro e w' ⟨rfl, rfl⟩
  go_wp2_with fail
  refine (HI.out _).mono ?_
  rintro e w' ⟨rfl, rfl⟩
  go_wp2
  go_ret
  exact ⟨rfl, Grown.refl _⟩

/-! ### THE ROW's STEP: WRITTEN OUT: LEAVE IT -/
set_option maxRecDepth 100000 in
theorem lifted (os : Os) (started : os.Started) (H : Type) (enc : TypeId × Value → H) :
    ReturnsInHanded {} Try.checked os 3 .any (Rows.fnExactApplySpec.pre6 enc Try.prog Try.f3 Rows.fnExactApplyRow.domain false) (Rows.fnExactApplySpec.post enc Try.prog Try.f3 false true false false) := by
  refine returnsInHanded_of_change (C := Try.checked) own started (by kernel_rfl) Try.func3
    (ChangeSpec.witness6 (enc := enc) (C := Try.checked) false ⟨#[], #[.int .i64 0, .int .i64 0, .int .i64 0], []⟩ 8 (by kernel_rfl) (by kernel_rfl) (by kernel_rfl) (by kernel_rfl)) ?_
  intro W base args ds gs before hval0 hW hcnd _
  have hval : ∀ (j : Nat) t v, Try.f3.params[j]? = some t → args[j]? = some v → Value.okWide Try.prog W .any base t v := hval0
  have hW' := hW
  obtain ⟨p, q, hA0, hV, rfl, hfz, hnd⟩ := hW
  have hA : DataW.TrodAll enc Try.prog W 0 (fun _ => true) true Try.f3.params.toList args.toList ds p := hA0
  rw [Try.params3] at hA hval
  obtain ⟨v0, vs0, d0, ds0, p0, q0, hargs, rfl, rfl, h0, r0⟩ := trodAll_cons hA
  obtain ⟨v1, vs1, d1, ds1, p1, q1, rfl, rfl, rfl, h1, r1⟩ := trodAll_cons r0
  obtain ⟨v2, vs2, d2, ds2, p2, q2, rfl, rfl, rfl, h2, r2⟩ := trodAll_cons r1
  obtain ⟨rfl, rfl, rfl⟩ := trodAll_nil r2
  obtain rfl : args = #[v0, v1, v2] := by cases args; simp_all
  obtain ⟨rfl, rfl⟩ := trodVars_none hV
  obtain ⟨a0, rfl, rfl, rfl, w0⟩ := open_int Try.underlying2 (hval 0 2 v0 rfl rfl) h0
  obtain ⟨a1, rfl, rfl, rfl, w1⟩ := open_int Try.underlying2 (hval 1 2 v1 rfl rfl) h1
  obtain ⟨a2, rfl, rfl, rfl, w2⟩ := open_int Try.underlying2 (hval 2 2 v2 rfl rfl) h2
  clear hA0 hval0
  simp only [List.append_nil] at hW'
  refine (walk a0 a1 a2 w0 w1 w2 W).mono fun e W' ⟨he, hg⟩ => ?_
  subst he
  exact ⟨_, rfl, post_of_same (pa := []) (pv := []) hW' (fun _ _ _ => (trodAll_cons_mk (shut_bool Try.underlying4 _) trodAll_mk0)) (fun sp _ => (trodAll_cons_mk (shut_int Try.underlying2 w0) (trodAll_cons_mk (shut_int Try.underlying2 w1) (trodAll_cons_mk (shut_int Try.underlying2 w2) trodAll_mk0)))) (fun _ _ => rfl) rfl
    (hg.frame _) hg.2.1 (ok_one (by kernel_rfl) rfl (okWide_bool_mk Try.underlying4 _))⟩

theorem over : Rows.fnExactApplyRow.holds Try.pinned (OpenSpec.ofChange Rows.fnExactApplySpec) :=
  OpenClaim.holds_of_wide 3 Try.f3 rfl rfl rfl rfl rfl rfl rfl ⟨rfl, rfl, rfl, rfl, rfl⟩ rfl rfl rfl rfl rfl (by kernel_rfl) Try.func3 (by kernel_rfl)
    (of_decide_eq_true (by kernel_rfl)) (by unfold Func.isWrapper; first | (rw [if_pos (by decide +kernel)]; kernel_rfl) | (rw [if_neg (by decide +kernel)]; exact ⟨rfl, rfl⟩))
    (fun os started H enc _ => lifted os started H enc)

/-- ████ THE STATEMENT ████ -/
theorem proved : Rows.FnExactApplySaid :=
  over
end Go.Proofs.Ytgcabefonhechaa.fnExactApply
namespace Go.Proofs.Ytgcabefonhechaa
theorem apply_holds : Rows.FnExactApplySaid := fnExactApply.proved
#print axioms apply_holds
end Go.Proofs.Ytgcabefonhechaa
