import Derived.Test.YtplkgkgekgdnmaaSl
import Derived.Test.YtplkgkgekgdnmaaNm
import Derived.OpenShut
import Derived.ShutString
import Derived.ChangeOld
import Derived.Below
import Derived.Lib.SmallJoins
import Derived.WalkSmall
import Derived.Deep.RegionWith
namespace Go.Proofs.Ytplkgkgekgdnmaa
namespace Vi
open Go.ChangeShapes Go.WideShapes Go.ChangeAt Go.RowKit Go.Joins
set_option linter.unusedVariables false

set_option maxHeartbeats 1000000 in
theorem eqImage_any (a1 a2 : Option Addr) (len c1 c2 : Nat) (d bd : Int) (zs : List Int) (w : World) (hl : len ≤ 1048576) (h1 : Nums .u32 w a1 len zs) (h2 : Nums .u32 w a2 len zs) :
    Calls Try.prog 21 #[.agg #[.slice a1 len c1, .int .i64 d, .int .i64 bd], .agg #[.slice a2 len c2, .int .i64 d, .int .i64 bd]] w fun e w' => e = .returned (.bool true) ∧ Below w.heap.size w w' := by
  go_enter Try.func21, Try.ntmps21
  go_wp2_with fail
  have hB : Below w.heap.size w ((w.alloc (.cells #[.slice a1 len c1, .int .i64 d, .int .i64 bd] 40)).alloc (.cells #[.slice a2 len c2, .int .i64 d, .int .i64 bd] 40)) := ((Below.refl _ _).alloc (Nat.le_refl _) _ |>.alloc (by simp) _)
  refine (eq32_any a1 a2 len c1 c2 zs _ hl (h1.below hB) (h2.below hB)).mono ?_
  rintro e w1 ⟨rfl, n, rfl⟩
  go_wp2
  go_ret
  exact ⟨rfl, below_drewN hB n⟩

set_option maxHeartbeats 1000000 in
theorem walk_no (a : Option Addr) (len cap : Nat) (d bd : Int) (w : World) (hl : 1048576 < len) (hm : len ≤ 9223372036854775807) :
    Calls Try.prog 6 #[.agg #[.slice a len cap, .int .i64 d, .int .i64 bd]] w fun e w' => e = .returned (.bool true) ∧ Below w.heap.size w w' := by
  go_enter Try.func6, Try.ntmps6
  go_wp2_with fail
  refine (sz_image_no a len cap d bd _ hl hm).mono ?_
  rintro e w1 ⟨rfl, hb⟩
  go_wp2
  go_ret
  exact ⟨rfl, ((Below.refl _ _).alloc (Nat.le_refl _) _).trans (hb.mono (by simp))⟩

theorem box3 {w w' : World} {t : TypeId} {x y z : Value} (h : Below (w.heap.size + 1) (w.alloc (.cells #[x, y, z] t)) w') :
    w'.cell? ⟨w.heap.size, 0, none⟩ = some x ∧ w'.cell? ⟨w.heap.size, 1, none⟩ = some y ∧ w'.cell? ⟨w.heap.size, 2, none⟩ = some z := by
  refine ⟨?_, ?_, ?_⟩ <;> (rw [h.cell (by simp)]; simp)

set_option maxHeartbeats 1000000 in
theorem walk_yes (a : Option Addr) (len cap : Nat) (d bd : Int) (zs : List Int) (w : World) (hl : len ≤ 1048576) (hn : Nums .u32 w a len zs) :
    Calls Try.prog 6 #[.agg #[.slice a len cap, .int .i64 d, .int .i64 bd]] w fun e w' => e = .returned (.bool true) ∧ Below w.heap.size w w' := by
  have hB0 : Below w.heap.size w (w.alloc (.cells #[.slice a len cap, .int .i64 d, .int .i64 bd] 37)) := (Below.refl _ _).alloc (Nat.le_refl _) _
  go_enter Try.func6, Try.ntmps6
  go_wp2_with fail
  refine (sz_image a len cap d bd _ hl).mono ?_
  rintro e w1 ⟨rfl, hb1⟩
  simp only [World.size_alloc] at hb1
  have k1 := box3 hb1
  have hn1 := hn.below (hB0.trans (hb1.mono (by omega)))
  have z1 := hb1.size
  simp only [World.size_alloc] at z1
  go_wp2_with fail
  refine (toImage_any a len cap d bd zs _ hl hn1).mono ?_
  rintro e w2 ⟨g2, rfl, hN2, hg2, hb2, hs2⟩
  have hb2' := hb1.trans (hb2.mono z1)
  have z2 := hb2.size
  clear hb2 hN2 k1
  go_wp2_with fail
  refine (vs_any _ len len d bd _ hl).mono ?_
  rintro e w3 ⟨rfl, hb3⟩
  have hb3' := hb2'.trans (hb3.mono (Nat.le_trans z1 z2))
  have z3 := hb3.size
  have k3 := box3 hb3'
  have hn3 := hn.below (hB0.trans (hb3'.mono (by omega)))
  clear hb3 hb2'
  go_wp2_with fail
  refine (toImage_any a len cap d bd zs _ hl hn3).mono ?_
  rintro e w4 ⟨g4, rfl, hN4, hg4, hb4, hs4⟩
  have z4 := hb4.size
  have hb4' := hb3'.trans (hb4.mono (Nat.le_trans z1 (Nat.le_trans z2 z3)))
  have k4 := box3 hb4'
  clear hb4 k3 hn3
  go_wp2_with fail
  refine (vi_any _ len len d bd _ hl).mono ?_
  rintro e w5 ⟨rfl, hb5⟩
  simp only [World.size_alloc] at hb5
  have k5 := box3 hb5
  have hb5' := hb4'.trans ((((Below.refl _ _).alloc (Nat.le_refl w4.heap.size) _).trans (hb5.mono (Nat.le_succ _))).mono (Nat.le_trans z1 (Nat.le_trans z2 (Nat.le_trans z3 z4))))
  have k5' := box3 hb5'
  have hn5 := hn.below (hB0.trans (hb5'.mono (by omega)))
  have hN5 : Nums .u32 w5 (some ⟨g4, 0, none⟩) len zs := (hN4.below ((Below.refl _ _).alloc (Nat.le_refl w4.heap.size) _)).below (by simpa using hb5)
  have z5 := hb5.size
  simp only [World.size_alloc] at z5
  have hB5 : Below w.heap.size w w5 := hB0.trans (hb5'.mono (by omega))
  have HT : Hid (∀ W, Below w5.heap.size w5 W → Calls Try.prog 19 #[.agg #[.slice a len cap, .int .i64 d, .int .i64 bd]] W fun e w' =>
      ∃ g, e = .returned (.agg #[.slice (some ⟨g, 0, none⟩) len len, .int .i64 d, .int .i64 bd]) ∧ Nums .u32 w' (some ⟨g, 0, none⟩) len zs ∧ Nums .u32 w' (some ⟨g4, 0, none⟩) len zs ∧
        (w'.cell? ⟨w4.heap.size, 0, none⟩ = some (.slice (some ⟨g4, 0, none⟩) len len) ∧ w'.cell? ⟨w4.heap.size, 1, none⟩ = some (.int .i64 d) ∧ w'.cell? ⟨w4.heap.size, 2, none⟩ = some (.int .i64 bd)) ∧ Below w.heap.size w w') := by
    intro W hW
    refine (toImage_any a len cap d bd zs W hl (hn5.below hW)).mono ?_
    rintro e w6 ⟨g6, rfl, hN6, hg6, hb6, hs6⟩
    have hb56 : Below w5.heap.size w5 w6 := hW.trans (hb6.mono hW.size)
    exact ⟨g6, rfl, hN6, hN5.below hb56, box3 (hb5.trans (hb56.mono z5)), hB5.trans (hb56.mono hB5.size)⟩
  have HE : Hid (∀ (g6 : Nat) (W : World), Nums .u32 W (some ⟨g6, 0, none⟩) len zs → Nums .u32 W (some ⟨g4, 0, none⟩) len zs → Below w.heap.size w W →
      Calls Try.prog 21 #[.agg #[.slice (some ⟨g4, 0, none⟩) len len, .int .i64 d, .int .i64 bd], .agg #[.slice (some ⟨g6, 0, none⟩) len len, .int .i64 d, .int .i64 bd]] W fun e w' => e = .returned (.bool true) ∧ Below w.heap.size w w') := by
    intro g6 W h6 h4 hB
    exact (eqImage_any _ _ len len len d bd zs W hl h4 h6).mono fun e w' ⟨he, hb⟩ => ⟨he, hB.trans (hb.mono hB.size)⟩
  clear hb4' k4 hn1 hb5 hb5' hB0 hb1 hb3' hn hN4 hN5 hn5 hB5
  go_wp2_with fail
  go_region_with (first
    | (go_at_call 19; refine (HT.out _ ?_).mono ?_; (first | exact (Below.refl _ _).drew | exact Below.refl _ _); rintro e w6 ⟨g6, rfl, hN6, hN6', k6, hB6⟩)
    | (go_at_call 21; refine (HE.out _ _ ?_ ?_ ?_).mono ?_; (first | assumption | exact hN6); (first | assumption | exact hN6'); (first | assumption | exact hB6); rintro e w7 ⟨rfl, hB7⟩))
  all_goals (go_wp2; go_ret; exact ⟨rfl, by assumption⟩)

theorem walk (a : Option Addr) (len cap : Nat) (d bd : Int) (zs : List Int) (w : World) (hm : len ≤ 9223372036854775807) (hn : Nums .u32 w a len zs) :
    Calls Try.prog 6 #[.agg #[.slice a len cap, .int .i64 d, .int .i64 bd]] w fun e w' => e = .returned (.bool true) ∧ Below w.heap.size w w' := by
  by_cases hl : len ≤ 1048576
  · exact walk_yes a len cap d bd zs w hl hn
  · exact walk_no a len cap d bd w (by omega) hm

theorem cells37 : Try.prog.cellsOf 37 = 3 := by kernel_rfl

set_option maxRecDepth 100000 in
theorem lifted (os : Os) (started : os.Started) (H : Type) (enc : TypeId × Value → H) :
    ReturnsInHanded {} Try.checked os 6 .any (Rows.fnExactValidImageSpec.pre6 enc Try.prog Try.f6 Rows.fnExactValidImageRow.domain false) (Rows.fnExactValidImageSpec.post enc Try.prog Try.f6 false true false false) := by
  refine returnsInHanded_of_change (C := Try.checked) own started (by kernel_rfl) Try.func6
    (ChangeSpec.witness6 (enc := enc) (C := Try.checked) false ⟨#[], #[.agg #[.slice none 0 0, .int .i64 0, .int .i64 0]], []⟩ 8 (by kernel_rfl) (by kernel_rfl) (by kernel_rfl) (by kernel_rfl)) ?_
  intro W base args ds gs before hval0 hW hcnd _
  have hval : ∀ (j : Nat) t v, Try.f6.params[j]? = some t → args[j]? = some v → Value.okWide Try.prog W .any base t v := hval0
  have hW' := hW
  obtain ⟨p, q, hA0, hV, rfl, hfz, hnd⟩ := hW
  have hA : DataW.TrodAll enc Try.prog W 0 (fun _ => true) true Try.f6.params.toList args.toList ds p := hA0
  rw [Try.params6] at hA hval
  obtain ⟨v0, vs0, d0, ds0, p0, q0, hargs, rfl, rfl, h0, r0⟩ := trodAll_cons hA
  obtain ⟨rfl, rfl, rfl⟩ := trodAll_nil r0
  obtain rfl : args = #[v0] := by cases args; simp_all
  obtain ⟨rfl, rfl⟩ := trodVars_none hV
  have k0 := h0
  have lt0 : ∀ x ∈ p0, x.block < W.heap.size := by obtain ⟨m, hm⟩ := k0; exact DataW.trod_lt m _ _ _ hm
  obtain ⟨c0, c1, c2, y0, y1, y2, m, rfl, _, _, t0, t1, t2⟩ := open_agg3 Try.underlying37 (by kernel_rfl) cells37 (hval 0 37 v0 rfl rfl) h0
  obtain ⟨a, len, cap, zs, rfl, hm, hn, _⟩ := nums_of Try.underlying35 Try.underlying28 (by kernel_rfl) t0
  obtain ⟨d, e1, _, _⟩ := DataW.trod_int Try.underlying2 t1
  obtain ⟨bd, e2, _, _⟩ := DataW.trod_int Try.underlying2 t2
  simp at e1 e2
  subst e1 e2
  clear hA0 hval0
  refine (walk a len cap d bd zs W hm hn).mono fun e W' ⟨he, bel⟩ => ?_
  subst he
  exact ⟨_, rfl, _, _, _, [], _, [], hW', trodAll_mk1 (shut_bool Try.underlying4 _), (trodAll_cons_mk (Below.trod laidOut (by kernel_rfl) (of_decide_eq_true (by kernel_rfl)) k0 bel lt0) trodAll_mk0), rfl, bel.frame _, fun h => by cases h⟩

theorem over : Rows.fnExactValidImageRow.holds Try.pinned (OpenSpec.ofChange Rows.fnExactValidImageSpec) :=
  OpenClaim.holds_of_wide 6 Try.f6 rfl rfl rfl rfl rfl rfl rfl ⟨rfl, rfl, rfl, rfl, rfl⟩ rfl rfl rfl rfl rfl (by kernel_rfl) Try.func6 (by kernel_rfl)
    (of_decide_eq_true (by kernel_rfl)) (by unfold Func.isWrapper; first | (rw [if_pos (by decide +kernel)]; kernel_rfl) | (rw [if_neg (by decide +kernel)]; exact ⟨rfl, rfl⟩))
    (fun os started H enc _ => lifted os started H enc)
end Vi
theorem validImage_holds : Rows.FnExactValidImageSaid := Vi.over
#print axioms validImage_holds
end Go.Proofs.Ytplkgkgekgdnmaa
