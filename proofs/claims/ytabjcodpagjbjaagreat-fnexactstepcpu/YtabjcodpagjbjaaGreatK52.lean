import Derived.Test.YtabjcodpagjbjaaGreatK51
import Derived.OpenShut
import Derived.ShutString
import Derived.ChangeOld
import Derived.Below
import Derived.ProofKit
import Derived.Lib.SmallJoins
import Derived.WalkSmall
namespace Go.Proofs.YtabjcodpagjbjaaGreat
open Go.ChangeShapes Go.WideShapes Go.ChangeAt Go.RowKit Go.Joins Go.Deep
set_option linter.unusedVariables false

theorem own : ownKnob Tryz.prog.godebug = none := by kernel_rfl
theorem laidOut : laidOutB Tryz.prog = true := by kernel_rfl

theorem rds_of {H : Type} {enc : TypeId × Value → H} {W : World} {base : Nat} {spare : Nat → Bool} {held : Bool} {n : Nat} {t e : TypeId} {k : IntKind} {v : Value} {y : DataW H × List MemPlace}
    (ht : Tryz.prog.underlying t = some (.slice e)) (he : Tryz.prog.underlying e = some (.int k)) (hc : Tryz.prog.cellsOf e = 1) (h : DataW.trod enc Tryz.prog W base spare held n t [v] = some y) :
    ∃ zs : List Int, Rds k W v zs ∧ zs.length ≤ 9223372036854775807 ∧ ∀ x ∈ zs, (Lit.int k x).wf = true := by
  rcases open_ints ht he hc h with ⟨hcs, _⟩ | ⟨x, l, c, zs, hcs, _, hl, hm, hz, _, hcell, hwz⟩
  · simp at hcs
    subst hcs
    exact ⟨[], ⟨none, 0, rfl, fun h => absurd h (Nat.lt_irrefl _)⟩, by simp, by simp⟩
  · simp at hcs
    subst hcs
    unfold maxLen at hm
    have hz' : l ≤ zs.length := by rw [hz]; split <;> omega
    have hlen : (zs.take l).length = l := by simp; omega
    refine ⟨zs.take l, ⟨some x, c, by rw [hlen], fun h => ?_⟩, by rw [hlen]; omega, fun x hx => hwz x (List.mem_of_mem_take hx)⟩
    rw [hlen] at h ⊢
    obtain ⟨b, off, spot⟩ := x
    have hc0 := hcell 0 (by omega)
    have hspot : spot = none := by simpa [Addr.add] using World.cell?_spot hc0
    subst hspot
    refine ⟨b, off, rfl, ?_, fun j hj => ?_⟩
    · have := World.block_lt_of_cell? _ _ hc0
      simpa [Addr.add] using this
    · have hj' := hcell j (by omega)
      have e : (⟨b, off, none⟩ : Addr).add j = ⟨b, off + j, none⟩ := by simp only [Addr.add]; split <;> simp_all
      rw [e] at hj'
      rw [hj']
      simp [List.getD, hj]

set_option maxHeartbeats 1000000 in
theorem lawStep_no1 (a : Option Addr) (len cap : Nat) (d bd : Int) (x1 x2 x3 x4 x5 : Option Addr) (n1 n2 n3 n4 n5 y1 y2 y3 y4 y5 : Nat) (pc lo st : Int) (w : World) (hl : 1048576 < len) (hm : len ≤ 9223372036854775807) :
    Calls Tryz.prog 3 #[.agg #[.slice a len cap, .int .i64 d, .int .i64 bd], .agg #[.slice x1 n1 y1, .int .u32 pc, .slice x2 n2 y2, .slice x3 n3 y3, .slice x4 n4 y4, .slice x5 n5 y5, .int .u32 lo, .int .i64 st]] w fun e w' => e = .returned (.bool true) ∧ Below w.heap.size w w' := by
  haveI : Inhabited Pick := ⟨⟨fun _ h => Classical.choice h⟩⟩
  have A0 : Below w.heap.size w ((w.alloc (.cells #[.slice a len cap, .int .i64 d, .int .i64 bd] 24)).alloc (.cells #[.slice x1 n1 y1, .int .u32 pc, .slice x2 n2 y2, .slice x3 n3 y3, .slice x4 n4 y4, .slice x5 n5 y5, .int .u32 lo, .int .i64 st] 29)) := ((Below.refl _ _).alloc (Nat.le_refl _) _).alloc (by simp) _
  go_enter Tryz.func3, Tryz.ntmps3
  go_wp2_with fail
  refine (sz_no a len cap d bd _ hl hm).mono ?_
  rintro e w1 ⟨rfl, hb⟩
  have A1 : Hid _ := A0.trans (hb.mono (by simp; omega))
  clear A0 hb
  go_wp2
  go_ret
  exact ⟨rfl, A1.out⟩
set_option maxHeartbeats 1000000 in
theorem lawStep_no2 (a : Option Addr) (len cap : Nat) (d bd : Int) (x1 x2 x3 x4 x5 : Option Addr) (n1 n2 n3 n4 n5 y1 y2 y3 y4 y5 : Nat) (pc lo st : Int) (w : World) (hl : len ≤ 1048576) (hm : n1 ≤ 9223372036854775807 ∧ n2 ≤ 9223372036854775807 ∧ n3 ≤ 9223372036854775807 ∧ n4 ≤ 9223372036854775807 ∧ n5 ≤ 9223372036854775807) (hs : (1048576 : Int) - len < (n1 : Int) + n2 + n3 + n4 + n5) :
    Calls Tryz.prog 3 #[.agg #[.slice a len cap, .int .i64 d, .int .i64 bd], .agg #[.slice x1 n1 y1, .int .u32 pc, .slice x2 n2 y2, .slice x3 n3 y3, .slice x4 n4 y4, .slice x5 n5 y5, .int .u32 lo, .int .i64 st]] w fun e w' => e = .returned (.bool true) ∧ Below w.heap.size w w' := by
  haveI : Inhabited Pick := ⟨⟨fun _ h => Classical.choice h⟩⟩
  have N0 := Bx.of_heap (heap_alloc_new (w.alloc (.cells #[.slice a len cap, .int .i64 d, .int .i64 bd] 24)) (.cells #[.slice x1 n1 y1, .int .u32 pc, .slice x2 n2 y2, .slice x3 n3 y3, .slice x4 n4 y4, .slice x5 n5 y5, .int .u32 lo, .int .i64 st] 29))
  have A0 : Below w.heap.size w ((w.alloc (.cells #[.slice a len cap, .int .i64 d, .int .i64 bd] 24)).alloc (.cells #[.slice x1 n1 y1, .int .u32 pc, .slice x2 n2 y2, .slice x3 n3 y3, .slice x4 n4 y4, .slice x5 n5 y5, .int .u32 lo, .int .i64 st] 29)) := ((Below.refl _ _).alloc (Nat.le_refl _) _).alloc (by simp) _
  simp only [World.size_alloc] at N0
  have HM : Hid _ := And.intro hm hs
  clear hm hs
  go_enter Tryz.func3, Tryz.ntmps3
  go_wp2_with fail
  refine (sz_yes a len cap d bd _ hl).mono ?_
  rintro e w1 ⟨rfl, hb⟩
  obtain ⟨e0, e1, e2, e3, e4, e5, e6, e7, ef⟩ := N0.below hb
  have A1 : Hid _ := A0.trans (hb.mono (by simp; omega))
  clear A0 hb N0
  go_wp2_with fail
  refine (szc_no x1 x2 x3 x4 x5 _ _ _ _ _ y1 y2 y3 y4 y5 pc lo st _ w1 (by omega) HM.out.1 HM.out.2).mono ?_
  rintro e w2 ⟨rfl, hb2⟩
  have A2 : Hid _ := A1.out.trans (hb2.mono A1.out.size)
  clear A1 hb2
  go_wp2
  go_ret
  exact ⟨rfl, A2.out⟩

theorem walkStep (v0 v1 v2 v3 v4 v5 : Value) (d bd pc lo st : Int) (zs r1 r2 r3 r4 r5 : List Int) (w : World) (h0 : Rds .u32 w v0 zs) (h1 : Rds .u32 w v1 r1) (h2 : Rds .u8 w v2 r2) (h3 : Rds .u8 w v3 r3) (h4 : Rds .i64 w v4 r4) (h5 : Rds .i64 w v5 r5)
    (m0 : zs.length ≤ 9223372036854775807) (m1 : r1.length ≤ 9223372036854775807) (m2 : r2.length ≤ 9223372036854775807) (m3 : r3.length ≤ 9223372036854775807) (m4 : r4.length ≤ 9223372036854775807) (m5 : r5.length ≤ 9223372036854775807)
    (g0 : ∀ x ∈ zs, (Lit.int .u32 x).wf = true) (g1 : ∀ x ∈ r1, (Lit.int .u32 x).wf = true) (g2 : ∀ x ∈ r2, (Lit.int .u8 x).wf = true) (g3 : ∀ x ∈ r3, (Lit.int .u8 x).wf = true) (gp : 0 ≤ pc ∧ pc ≤ 4294967295) (gl : 0 ≤ lo ∧ lo ≤ 4294967295) :
    Calls Tryz.prog 3 #[.agg #[v0, .int .i64 d, .int .i64 bd], .agg #[v1, .int .u32 pc, v2, v3, v4, v5, .int .u32 lo, .int .i64 st]] w fun e w' => e = .returned (.bool true) ∧ Below w.heap.size w w' := by
  haveI : Inhabited Pick := ⟨⟨fun _ h => Classical.choice h⟩⟩
  obtain ⟨a, cap, rfl, _⟩ := id h0
  by_cases hl : zs.length ≤ 1048576
  · by_cases hs : (zs.length : Int) + r1.length + r2.length + r3.length + r4.length + r5.length ≤ 1048576
    · exact lawStep_yes a cap d bd _ zs ⟨r1, pc, r2, r3, r4, r5, lo, st⟩ w hs h0 ⟨_, _, _, _, _, rfl, h1, h2, h3, h4, h5⟩ (fun j hj => by have := bounds_u32 (g0 (zs.getD j 0) (by simp [List.getD, hj])); omega)
        ⟨fun j hj => by have := bounds_u32 (g1 (r1.getD j 0) (by simp [List.getD, show j < r1.length from hj])); dsimp only; omega, gp, gl, fun j hj => by have := bounds_u8 (g2 (r2.getD j 0) (by simp [List.getD, show j < r2.length from hj])); dsimp only; omega, fun j hj => by have := bounds_u8 (g3 (r3.getD j 0) (by simp [List.getD, show j < r3.length from hj])); dsimp only; omega⟩
    · obtain ⟨b1, e1, rfl, _⟩ := id h1
      obtain ⟨b2, e2, rfl, _⟩ := id h2
      obtain ⟨b3, e3, rfl, _⟩ := id h3
      obtain ⟨b4, e4, rfl, _⟩ := id h4
      obtain ⟨b5, e5, rfl, _⟩ := id h5
      exact lawStep_no2 a zs.length cap d bd b1 b2 b3 b4 b5 _ _ _ _ _ e1 e2 e3 e4 e5 pc lo st w hl ⟨m1, m2, m3, m4, m5⟩ (by omega)
  · obtain ⟨b1, e1, rfl, _⟩ := id h1
    obtain ⟨b2, e2, rfl, _⟩ := id h2
    obtain ⟨b3, e3, rfl, _⟩ := id h3
    obtain ⟨b4, e4, rfl, _⟩ := id h4
    obtain ⟨b5, e5, rfl, _⟩ := id h5
    exact lawStep_no1 a zs.length cap d bd b1 b2 b3 b4 b5 _ _ _ _ _ e1 e2 e3 e4 e5 pc lo st w (by omega) m0

theorem cellsB : Tryz.prog.cellsOf 24 = 3 := by kernel_rfl
theorem cellsC : Tryz.prog.cellsOf 29 = 8 := by kernel_rfl
theorem array8 {a : Array Value} (h : a.size = 8) : ∃ c0 c1 c2 c3 c4 c5 c6 c7, a = #[c0, c1, c2, c3, c4, c5, c6, c7] := by
  obtain ⟨l⟩ := a
  simp only [List.size_toArray] at h
  obtain ⟨t0, l0, rfl, h0⟩ := len_cons h
  obtain ⟨t1, l1, rfl, h1⟩ := len_cons h0
  obtain ⟨t2, l2, rfl, h2⟩ := len_cons h1
  obtain ⟨t3, l3, rfl, h3⟩ := len_cons h2
  obtain ⟨t4, l4, rfl, h4⟩ := len_cons h3
  obtain ⟨t5, l5, rfl, h5⟩ := len_cons h4
  obtain ⟨t6, l6, rfl, h6⟩ := len_cons h5
  obtain ⟨t7, l7, rfl, h7⟩ := len_cons h6
  obtain rfl := List.eq_nil_of_length_eq_zero h7
  exact ⟨_, _, _, _, _, _, _, _, rfl⟩
section
variable {H : Type} {enc : TypeId × Value → H} {P : Program} {w : World} {base : Nat} {spare : Nat → Bool} {held : Bool}
theorem open_agg8 {r : Reach} {b0 : Nat} {t : TypeId} {f0 f1 f2 f3 f4 f5 f6 f7 : Field} {v : Value} {d : DataW H} {p : List MemPlace} (hs : P.underlying t = some (.struct #[f0, f1, f2, f3, f4, f5, f6, f7])) (hone : oneCellFields P #[f0, f1, f2, f3, f4, f5, f6, f7] = true) (hC : P.cellsOf t = 8)
    (hv : Value.okWide P w r b0 t v) (h : DataW.Trod enc P w base spare held t v d p) :
    ∃ (c0 c1 c2 c3 c4 c5 c6 c7 : Value) (y0 y1 y2 y3 y4 y5 y6 y7 : DataW H × List MemPlace) (n : Nat), v = .agg #[c0, c1, c2, c3, c4, c5, c6, c7] ∧ DataW.trod enc P w base spare held n f0.type [c0] = some y0 ∧ DataW.trod enc P w base spare held n f1.type [c1] = some y1 ∧ DataW.trod enc P w base spare held n f2.type [c2] = some y2 ∧ DataW.trod enc P w base spare held n f3.type [c3] = some y3 ∧ DataW.trod enc P w base spare held n f4.type [c4] = some y4 ∧ DataW.trod enc P w base spare held n f5.type [c5] = some y5 ∧ DataW.trod enc P w base spare held n f6.type [c6] = some y6 ∧ DataW.trod enc P w base spare held n f7.type [c7] = some y7 := by
  obtain ⟨cs, rfl, hsz⟩ := okWide_struct hs hv
  obtain ⟨c0, c1, c2, c3, c4, c5, c6, c7, rfl⟩ := array8 (hsz.trans hC)
  obtain ⟨fuel, hf⟩ := h
  obtain ⟨xs, n, _, _, _, hlen, hfd⟩ := DataW.trod_struct hs hf
  obtain ⟨o0, k0⟩ := hone_of hone 0 f0 rfl
  obtain ⟨o1, k1⟩ := hone_of hone 1 f1 rfl
  obtain ⟨o2, k2⟩ := hone_of hone 2 f2 rfl
  obtain ⟨o3, k3⟩ := hone_of hone 3 f3 rfl
  obtain ⟨o4, k4⟩ := hone_of hone 4 f4 rfl
  obtain ⟨o5, k5⟩ := hone_of hone 5 f5 rfl
  obtain ⟨o6, k6⟩ := hone_of hone 6 f6 rfl
  obtain ⟨o7, k7⟩ := hone_of hone 7 f7 rfl
  match xs, hlen with
  | [y0, y1, y2, y3, y4, y5, y6, y7], _ => exact ⟨c0, c1, c2, c3, c4, c5, c6, c7, y0, y1, y2, y3, y4, y5, y6, y7, n, rfl, by simpa [Value.cells, o0, k0] using hfd 0 f0 rfl, by simpa [Value.cells, o1, k1] using hfd 1 f1 rfl, by simpa [Value.cells, o2, k2] using hfd 2 f2 rfl, by simpa [Value.cells, o3, k3] using hfd 3 f3 rfl, by simpa [Value.cells, o4, k4] using hfd 4 f4 rfl, by simpa [Value.cells, o5, k5] using hfd 5 f5 rfl, by simpa [Value.cells, o6, k6] using hfd 6 f6 rfl, by simpa [Value.cells, o7, k7] using hfd 7 f7 rfl⟩
end

set_option maxRecDepth 100000 in
theorem liftedB (os : Os) (started : os.Started) (H : Type) (enc : TypeId × Value → H) :
    ReturnsInHanded {} Tryz.checked os 3 .any (Rows.fnExactStepCpuSpec.pre6 enc Tryz.prog Tryz.f3 Rows.fnExactStepCpuRow.domain false) (Rows.fnExactStepCpuSpec.post enc Tryz.prog Tryz.f3 false true false false) := by
  refine returnsInHanded_of_change (C := Tryz.checked) own started (by kernel_rfl) Tryz.func3
    (ChangeSpec.witness6 (enc := enc) (C := Tryz.checked) false ⟨#[], #[.agg #[.slice none 0 0, .int .i64 0, .int .i64 0], .agg #[.slice none 0 0, .int .u32 0, .slice none 0 0, .slice none 0 0, .slice none 0 0, .slice none 0 0, .int .u32 0, .int .i64 0]], []⟩ 8 (by kernel_rfl) (by kernel_rfl) (by kernel_rfl) (by kernel_rfl)) ?_
  intro W base args ds gs before hval0 hW hcnd _
  have hval : ∀ (j : Nat) t v, Tryz.f3.params[j]? = some t → args[j]? = some v → Value.okWide Tryz.prog W .any base t v := hval0
  have hW' := hW
  obtain ⟨p, q, hA0, hV, rfl, hfz, hnd⟩ := hW
  have hA : DataW.TrodAll enc Tryz.prog W 0 (fun _ => true) true Tryz.f3.params.toList args.toList ds p := hA0
  rw [Tryz.params3] at hA hval
  obtain ⟨v0, vs0, d0, ds0, p0, q0, hargs, rfl, rfl, h0, r0⟩ := trodAll_cons hA
  obtain ⟨v1, vs1, d1, ds1, p1, q1, rfl, rfl, rfl, h1, r1⟩ := trodAll_cons r0
  obtain ⟨rfl, rfl, rfl⟩ := trodAll_nil r1
  obtain rfl : args = #[v0, v1] := by cases args; simp_all
  obtain ⟨rfl, rfl⟩ := trodVars_none hV
  have k0 := h0
  have k1 := h1
  have lt0 : ∀ x ∈ p0, x.block < W.heap.size := by obtain ⟨m, hm⟩ := k0; exact DataW.trod_lt m _ _ _ hm
  have lt1 : ∀ x ∈ p1, x.block < W.heap.size := by obtain ⟨m, hm⟩ := k1; exact DataW.trod_lt m _ _ _ hm
  obtain ⟨c0, c1, c2, y0, y1, y2, m, rfl, _, _, t0, t1, t2⟩ := open_agg3 Tryz.underlying24 (by kernel_rfl) cellsB (hval 0 24 v0 rfl rfl) h0
  obtain ⟨zs, hz, mz, wz⟩ := rds_of Tryz.underlying22 Tryz.underlying25 (by kernel_rfl) t0
  obtain ⟨d, e1, _, _⟩ := DataW.trod_int Tryz.underlying2 t1
  obtain ⟨bd, e2, _, _⟩ := DataW.trod_int Tryz.underlying2 t2
  simp at e1 e2
  subst e1 e2
  obtain ⟨b0, b1, b2, b3, b4, b5, b6, b7, z0, z1, z2, z3, z4, z5, z6, z7, n, rfl, s0, s1, s2, s3, s4, s5, s6, s7⟩ := open_agg8 Tryz.underlying29 (by kernel_rfl) cellsC (hval 1 29 v1 rfl rfl) h1
  obtain ⟨l1, i1, m1, w1⟩ := rds_of Tryz.underlying22 Tryz.underlying25 (by kernel_rfl) s0
  obtain ⟨l2, i2, m2, w2⟩ := rds_of Tryz.underlying26 Tryz.underlying5 (by kernel_rfl) s2
  obtain ⟨l3, i3, m3, w3⟩ := rds_of Tryz.underlying26 Tryz.underlying5 (by kernel_rfl) s3
  obtain ⟨l4, i4, m4, w4⟩ := rds_of Tryz.underlying27 Tryz.underlying2 (by kernel_rfl) s4
  obtain ⟨l5, i5, m5, w5⟩ := rds_of Tryz.underlying27 Tryz.underlying2 (by kernel_rfl) s5
  obtain ⟨pc, e1, _, wp⟩ := DataW.trod_int Tryz.underlying25 s1
  obtain ⟨lo, e2, _, wl⟩ := DataW.trod_int Tryz.underlying25 s6
  obtain ⟨st, e3, _, _⟩ := DataW.trod_int Tryz.underlying2 s7
  simp at e1 e2 e3
  subst e1 e2 e3
  clear hA0 hval0
  refine (walkStep _ _ _ _ _ _ d bd pc lo st zs l1 l2 l3 l4 l5 W hz i1 i2 i3 i4 i5 mz m1 m2 m3 m4 m5 wz w1 w2 w3 (by have := bounds_u32 wp; omega) (by have := bounds_u32 wl; omega)).mono fun e W' ⟨he, bel⟩ => ?_
  subst he
  exact ⟨_, rfl, _, _, _, [], _, [], hW', trodAll_mk1 (shut_bool Tryz.underlying4 _), (trodAll_cons_mk (Below.trod laidOut (by kernel_rfl) (of_decide_eq_true (by kernel_rfl)) k0 bel lt0) (trodAll_cons_mk (Below.trod laidOut (by kernel_rfl) (of_decide_eq_true (by kernel_rfl)) k1 bel lt1) trodAll_mk0)), rfl, bel.frame _, fun h => by cases h⟩

theorem overB : Rows.fnExactStepCpuRow.holds Tryz.pinned (OpenSpec.ofChange Rows.fnExactStepCpuSpec) :=
  OpenClaim.holds_of_wide 3 Tryz.f3 rfl rfl rfl rfl rfl rfl rfl ⟨rfl, rfl, rfl, rfl, rfl⟩ rfl rfl rfl rfl rfl (by kernel_rfl) Tryz.func3 (by kernel_rfl)
    (of_decide_eq_true (by kernel_rfl)) (by unfold Func.isWrapper; first | (rw [if_pos (by decide +kernel)]; kernel_rfl) | (rw [if_neg (by decide +kernel)]; exact ⟨rfl, rfl⟩))
    (fun os started H enc _ => liftedB os started H enc)
theorem step_holds : Rows.FnExactStepCpuSaid := overB
#print axioms step_holds
end Go.Proofs.YtabjcodpagjbjaaGreat
