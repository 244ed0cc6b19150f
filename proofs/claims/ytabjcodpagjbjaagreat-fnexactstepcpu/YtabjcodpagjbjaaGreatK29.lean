import Derived.Test.YtabjcodpagjbjaaGreatK28
namespace Go.Proofs.YtabjcodpagjbjaaGreat
open Go.RowKit
set_option linter.unusedVariables false
set_option linter.unusedSimpArgs false
theorem box6 {w w' : World} {t : TypeId} {a b c d e f : Value} (h : Below (w.heap.size + 1) (w.alloc (.cells #[a, b, c, d, e, f] t)) w') :
    (w'.cell? ⟨w.heap.size, 0, none⟩ = some a ∧ w'.cell? ⟨w.heap.size, 1, none⟩ = some b ∧ w'.cell? ⟨w.heap.size, 2, none⟩ = some c ∧ w'.cell? ⟨w.heap.size, 3, none⟩ = some d ∧ w'.cell? ⟨w.heap.size, 4, none⟩ = some e ∧ w'.cell? ⟨w.heap.size, 5, none⟩ = some f) ∧
    ∀ j, w'.frozen? ⟨w.heap.size, j, none⟩ = false := by
  refine ⟨⟨?_, ?_, ?_, ?_, ?_, ?_⟩, fun j => ?_⟩
  all_goals first
    | (rw [h.cell (by simp)]; simp)
    | (rw [h.frozen (by simp)]; simp)

set_option maxRecDepth 100000 in
set_option maxHeartbeats 2000000 in
theorem specHit (v : Int) (hv : 0 ≤ v ∧ v ≤ 4294967295) (K : Nat) (hK : 1 ≤ K ∧ K ≤ 34) (a b c d : Int) (h0 : v % 128 = oc K)
    (hH : (∀ W : World, Calls Tryz.prog 55 #[.int .u32 v, .int .i64 K] W fun e w' => e = .returned (.agg #[.int .i64 K, .int .i64 a, .int .i64 b, .int .i64 c, .int .i64 d]) ∧ Below W.heap.size W w') ∧
      (∀ W : World, Calls Tryz.prog 56 #[.agg #[.int .i64 K, .int .i64 a, .int .i64 b, .int .i64 c, .int .i64 d]] W fun e w' => e = .returned (.int .u32 v) ∧ Below W.heap.size W w'))
    (hM : ∀ n : Nat, 1 ≤ n → n < K → ∃ rd s1 s2 im R : Int, (R == v) = false ∧ (∀ W : World, Calls Tryz.prog 55 #[.int .u32 v, .int .i64 n] W fun e w' => e = .returned (.agg #[.int .i64 n, .int .i64 rd, .int .i64 s1, .int .i64 s2, .int .i64 im]) ∧ Below W.heap.size W w') ∧
      (∀ W : World, Calls Tryz.prog 56 #[.agg #[.int .i64 n, .int .i64 rd, .int .i64 s1, .int .i64 s2, .int .i64 im]] W fun e w' => e = .returned (.int .u32 R) ∧ Below W.heap.size W w')) (w : World) :
    Calls Tryz.prog 43 #[.int .u32 v] w fun e w' => e = .returned (.agg #[.bool true, .int .i64 K, .int .i64 a, .int .i64 b, .int .i64 c, .int .i64 d]) ∧ Below w.heap.size w w' := by
  have HH : Hid _ := hH
  have HM : Hid _ := hM
  have H0 : Hid _ := h0
  clear hH hM h0
  go_enter Tryz.func43, Tryz.ntmps43
  go_wp2
  go_loopw [3] (fun i wr => ∃ n : Nat, 1 ≤ n ∧ n ≤ K ∧ i = .int .i64 n ∧ Below (w.heap.size + 1) (w.alloc (.cells #[.bool false, .int .i64 0, .int .i64 0, .int .i64 0, .int .i64 0, .int .i64 0] 54)) wr)
    (fun i _ => 35 - (intOf i).toNat)
  case atStart => exact ⟨1, by omega, by omega, rfl, Below.refl _ _⟩
  case round =>
    obtain ⟨n, hn1, hn2, rfl, hB⟩ := hrel
    have z0 := hB.size
    simp only [World.size_alloc] at z0
    by_cases hlt : n < K
    · obtain ⟨rd, s1, s2, im, R, hR, h39, h12⟩ := HM.out n hn1 hlt
      have G39 : Hid _ := h39
      have G12 : Hid _ := h12
      clear h39 h12
      go_wp2_with fail
      refine (codes_any n _ (by omega)).mono ?_
      rintro e w0 ⟨gc, rfl, hgl, k0, k1, k2, hb0⟩
      have hB0 := hB.trans (hb0.mono z0)
      have y0 := hb0.size
      clear k1 k2 hb0 hB
      by_cases hcd : oc n = v % 128
      · rw [hcd] at k0
        clear hcd
        go_wp2_with fail
        refine (G39.out _).mono ?_
        rintro e w1 ⟨rfl, hb1⟩
        have hB1 := hB0.trans (hb1.mono (by omega))
        have z1 := hb1.size
        clear k0
        go_wp2_with fail
        refine (G12.out _).mono ?_
        rintro e w2 ⟨rfl, hb2⟩
        simp only [World.size_alloc] at hb2
        have HB2 : Hid (Below (w.heap.size + 1) (w.alloc (.cells #[.bool false, .int .i64 0, .int .i64 0, .int .i64 0, .int .i64 0, .int .i64 0] 54)) w2) := hB1.trans (((Below.refl _ _).alloc (Nat.le_refl w1.heap.size) _ |>.trans (hb2.mono (Nat.le_succ _))).mono (by omega))
        clear hb1 hb2 hB1 hB0
        go_wp2
        go_roundw
        case rel => exact ⟨n + 1, by omega, by omega, by go_num, HB2.out⟩
        case measure => simp [intOf]; omega
      · have hcd' : (oc n == v % 128) = false := by simpa using hcd
        have HB2 : Hid (Below (w.heap.size + 1) (w.alloc (.cells #[.bool false, .int .i64 0, .int .i64 0, .int .i64 0, .int .i64 0, .int .i64 0] 54)) w0) := hB0
        clear hB0
        go_wp2
        go_roundw
        case rel => exact ⟨n + 1, by omega, by omega, by go_num, HB2.out⟩
        case measure => simp [intOf]; omega
    · obtain rfl : n = K := by omega
      have G39 : Hid _ := HH.out.1
      have G12 : Hid _ := HH.out.2
      go_wp2_with fail
      refine (codes_any n _ (by omega)).mono ?_
      rintro e w0 ⟨gc, rfl, hgl, k0, k1, k2, hb0⟩
      have hB0 := hB.trans (hb0.mono z0)
      have y0 := hb0.size
      clear k1 k2 hb0 hB
      rw [← H0.out] at k0
      go_wp2_with fail
      refine (G39.out _).mono ?_
      rintro e w1 ⟨rfl, hb1⟩
      have hB1 := hB0.trans (hb1.mono (by omega))
      have z1 := hb1.size
      clear k0
      go_wp2_with fail
      refine (G12.out _).mono ?_
      rintro e w2 ⟨rfl, hb2⟩
      simp only [World.size_alloc] at hb2
      have k2 := box5 hb2
      have hB2 := hB1.trans (((Below.refl _ _).alloc (Nat.le_refl w1.heap.size) _ |>.trans (hb2.mono (Nat.le_succ _))).mono (by omega : w.heap.size + 1 ≤ w1.heap.size))
      obtain ⟨q2, f2⟩ := box6 hB2
      have HB : Hid (Below w.heap.size w w2) := ((Below.refl _ _).alloc (Nat.le_refl _) _).trans (hB2.mono (by omega))
      clear hb1 hb2 hB1 hB0 hB2
      go_wp2
      refine bodyPost_ret (v := .agg #[.bool true, .int .i64 n, .int .i64 a, .int .i64 b, .int .i64 c, .int .i64 d]) (by simp [results, Tryz.results43, go_sem, q2, f2]) rfl ⟨rfl, ?_⟩
      exact (((((HB.out.setCell (by simp) _).setCell (by simp) _).setCell (by simp) _).setCell (by simp) _).setCell (by simp) _).setCell (by simp) _
set_option maxRecDepth 100000 in
set_option maxHeartbeats 2000000 in
theorem specMiss (v : Int) (hv : 0 ≤ v ∧ v ≤ 4294967295)
    (hM : ∀ n : Nat, 1 ≤ n → n < 35 → ∃ rd s1 s2 im R : Int, (R == v) = false ∧ (∀ W : World, Calls Tryz.prog 55 #[.int .u32 v, .int .i64 n] W fun e w' => e = .returned (.agg #[.int .i64 n, .int .i64 rd, .int .i64 s1, .int .i64 s2, .int .i64 im]) ∧ Below W.heap.size W w') ∧
      (∀ W : World, Calls Tryz.prog 56 #[.agg #[.int .i64 n, .int .i64 rd, .int .i64 s1, .int .i64 s2, .int .i64 im]] W fun e w' => e = .returned (.int .u32 R) ∧ Below W.heap.size W w')) (w : World) :
    Calls Tryz.prog 43 #[.int .u32 v] w fun e w' => e = .returned (.agg #[.bool false, .int .i64 0, .int .i64 0, .int .i64 0, .int .i64 0, .int .i64 0]) ∧ Below w.heap.size w w' := by
  have HM : Hid _ := hM
  clear hM
  go_enter Tryz.func43, Tryz.ntmps43
  go_wp2
  go_loopw [3] (fun i wr => ∃ n : Nat, 1 ≤ n ∧ n ≤ 35 ∧ i = .int .i64 n ∧ Below (w.heap.size + 1) (w.alloc (.cells #[.bool false, .int .i64 0, .int .i64 0, .int .i64 0, .int .i64 0, .int .i64 0] 54)) wr)
    (fun i _ => 35 - (intOf i).toNat)
  case atStart => exact ⟨1, by omega, by omega, rfl, Below.refl _ _⟩
  case round =>
    obtain ⟨n, hn1, hn2, rfl, hB⟩ := hrel
    have z0 := hB.size
    simp only [World.size_alloc] at z0
    by_cases hlt : n < 35
    · obtain ⟨rd, s1, s2, im, R, hR, h39, h12⟩ := HM.out n hn1 hlt
      have G39 : Hid _ := h39
      have G12 : Hid _ := h12
      clear h39 h12
      go_wp2_with fail
      refine (codes_any n _ (by omega)).mono ?_
      rintro e w0 ⟨gc, rfl, hgl, k0, k1, k2, hb0⟩
      have hB0 := hB.trans (hb0.mono z0)
      have y0 := hb0.size
      clear k1 k2 hb0 hB
      by_cases hcd : oc n = v % 128
      · rw [hcd] at k0
        clear hcd
        go_wp2_with fail
        refine (G39.out _).mono ?_
        rintro e w1 ⟨rfl, hb1⟩
        have hB1 := hB0.trans (hb1.mono (by omega))
        have z1 := hb1.size
        clear k0
        go_wp2_with fail
        refine (G12.out _).mono ?_
        rintro e w2 ⟨rfl, hb2⟩
        simp only [World.size_alloc] at hb2
        have HB2 : Hid (Below (w.heap.size + 1) (w.alloc (.cells #[.bool false, .int .i64 0, .int .i64 0, .int .i64 0, .int .i64 0, .int .i64 0] 54)) w2) := hB1.trans (((Below.refl _ _).alloc (Nat.le_refl w1.heap.size) _ |>.trans (hb2.mono (Nat.le_succ _))).mono (by omega))
        clear hb1 hb2 hB1 hB0
        go_wp2
        go_roundw
        case rel => exact ⟨n + 1, by omega, by omega, by go_num, HB2.out⟩
        case measure => simp [intOf]; omega
      · have hcd' : (oc n == v % 128) = false := by simpa using hcd
        have HB2 : Hid (Below (w.heap.size + 1) (w.alloc (.cells #[.bool false, .int .i64 0, .int .i64 0, .int .i64 0, .int .i64 0, .int .i64 0] 54)) w0) := hB0
        clear hB0
        go_wp2
        go_roundw
        case rel => exact ⟨n + 1, by omega, by omega, by go_num, HB2.out⟩
        case measure => simp [intOf]; omega
    · obtain rfl : n = 35 := by omega
      obtain ⟨q2, f2⟩ := box6 hB
      have HB : Hid (Below w.heap.size w wr) := ((Below.refl _ _).alloc (Nat.le_refl _) _).trans (hB.mono (by omega))
      clear hB
      go_wp2
      refine bodyPost_ret (v := .agg #[.bool false, .int .i64 0, .int .i64 0, .int .i64 0, .int .i64 0, .int .i64 0]) (by simp [results, Tryz.results43, go_sem, q2, f2]) rfl ⟨rfl, ?_⟩
      exact (((((HB.out.setCell (by simp) _).setCell (by simp) _).setCell (by simp) _).setCell (by simp) _).setCell (by simp) _).setCell (by simp) _
end Go.Proofs.YtabjcodpagjbjaaGreat
