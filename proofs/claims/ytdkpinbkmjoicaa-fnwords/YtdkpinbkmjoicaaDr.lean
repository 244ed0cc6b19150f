import Derived.Test.YtdkpinbkmjoicaaNw
import Derived.Test.YtdkpinbkmjoicaaDx
import Derived.Test.YtdkpinbkmjoicaaSp
import Derived.Test.YtdkpinbkmjoicaaDe
namespace Go.Proofs.Ytdkpinbkmjoicaa
open Go.RowKit
set_option linter.unusedVariables false
set_option linter.unusedSimpArgs false
set_option maxRecDepth 100000 in
set_option maxHeartbeats 4000000 in
theorem drawEncode_any (a : Option Addr) (len cap : Nat) (w : World) (hl : len ≤ 1048576) (hb8 : B8 w a len) :
    Calls Try.prog 5 #[.slice a len cap] w fun e w' => (∃ p q r s t : Int, e = .returned (.agg #[.int .i64 p, .int .i64 q, .int .i64 r, .int .i64 s, .int .i64 t])) ∧ Below w.heap.size w w' := by
  have HB8 : Hid (B8 w a len) := hb8
  clear hb8
  go_enter Try.func5, Try.ntmps5
  go_wp2_with fail
  refine (new_any a len cap _ hl (HB8.out.below ((Below.refl _ _).alloc (Nat.le_refl _) _))).mono ?_
  rintro e w1 ⟨rfl, hc1, hb1, z1⟩
  simp only [World.size_alloc] at hc1 hb1 z1
  have k1 := box5 hb1
  have f1 := box5f hb1
  have hbb := hc1.blk
  go_wp2_with fail
  refine (draw_any (w.heap.size + 1) a len cap _ hl hc1).mono ?_
  rintro e w2 ⟨⟨p, q, r, s, t, rfl⟩, hc2, ht2⟩
  have z2 := ht2.size
  have c2 := fun o => ht2.cell (k := w.heap.size) (o := o) (by omega) (by omega)
  have f2 := fun o => ht2.frozen (k := w.heap.size) (o := o) (by omega) (by omega)
  go_wp2_with fail
  refine (once_any (w.heap.size + 1) a len cap _ _ hl (hc2.alloc _) (by omega)).mono ?_
  rintro e w3 ⟨x, rfl, hc3, ht3⟩
  have z3 := ht3.size
  simp only [World.size_alloc] at z3
  have c3 := fun o => ht3.cell (k := w.heap.size) (o := o) (by simp; omega) (by omega)
  have f3' := fun o => ht3.frozen (k := w.heap.size) (o := o) (by simp; omega) (by omega)
  have d3 := fun o => ht3.cell (k := w2.heap.size) (o := o) (by simp) (by omega)
  have hn0 : ¬ w.heap.size = w2.heap.size := by omega
  have hn1 : w.heap.size < w2.heap.size + 1 := by omega
  have hn2 : w.heap.size < w2.heap.size := by omega
  have B3 : Hid (Below w.heap.size w w3) := ht3.below ((ht2.below (((Below.refl _ _).alloc (Nat.le_refl w.heap.size) _).trans (hb1.mono (by omega))) (by omega) (by omega)).alloc (by omega) _) (by simp; omega) (by omega)
  clear hb1 ht2 ht3 hc1 hc2
  cases x
  · go_wp2
    refine bodyPost_ret (v := .agg #[.int .i64 p, .int .i64 q, .int .i64 r, .int .i64 s, .int .i64 t]) (by first | (simp [results, Try.results5, go_sem, c3, f3', d3, k1, f1, c2, f2]; done) | (simp only [results, Try.results5]; go_simp)) rfl ⟨⟨_, _, _, _, _, rfl⟩, ?_⟩
    exact ((((B3.out.setCell (by simp) _).setCell (by simp) _).setCell (by simp) _).setCell (by simp) _).setCell (by simp) _
  · go_wp2_with fail
    refine (spoil_any (w.heap.size + 1) a len cap _ _ _ _ _ _ hl hc3).mono ?_
    rintro e w4 ⟨⟨p', q', r', s', t', rfl⟩, hc4, ht4⟩
    have z4 := ht4.size
    have c4 := fun o => ht4.cell (k := w.heap.size) (o := o) (by omega) (by omega)
    have f4 := fun o => ht4.frozen (k := w.heap.size) (o := o) (by omega) (by omega)
    have B4 : Hid (Below w.heap.size w w4) := ht4.below B3.out (by omega) (by omega)
    clear ht4 hc3
    go_wp2
    refine bodyPost_ret (v := .agg #[.int .i64 p', .int .i64 q', .int .i64 r', .int .i64 s', .int .i64 t']) (by first | (simp [results, Try.results5, go_sem, c4, f4, c3, f3', d3, k1, f1, c2, f2]; done) | (simp only [results, Try.results5]; go_simp)) rfl ⟨⟨_, _, _, _, _, rfl⟩, ?_⟩
    exact ((((B4.out.setCell (by simp) _).setCell (by simp) _).setCell (by simp) _).setCell (by simp) _).setCell (by simp) _
theorem u32_or_any (x : Int) : 0 ≤ x % 4294967296 ∧ x % 4294967296 ≤ 4294967295 := by omega
theorem xor_bd (a b : Int) : 0 ≤ bits .xor .u32 a b ∧ bits .xor .u32 a b ≤ 4294967295 := by
  unfold bits
  dsimp only
  rw [IntKind.wrap_u32']
  omega
set_option maxRecDepth 100000 in
set_option maxHeartbeats 4000000 in
theorem drawDecode_any (a : Option Addr) (len cap : Nat) (w : World) (hl : len ≤ 1048576) (hb8 : B8 w a len) :
    Calls Try.prog 11 #[.slice a len cap] w fun e w' => (∃ y : Int, (0 ≤ y ∧ y ≤ 4294967295) ∧ e = .returned (.int .u32 y)) ∧ Below w.heap.size w w' := by
  have HB8 : Hid (B8 w a len) := hb8
  clear hb8
  go_enter Try.func11, Try.ntmps11
  go_wp2_with fail
  refine (new_any a len cap _ hl HB8.out).mono ?_
  rintro e w1 ⟨rfl, hc1, hb1, z1⟩
  go_wp2_with fail
  refine (draw_any w.heap.size a len cap _ hl hc1).mono ?_
  rintro e w2 ⟨⟨p, q, r, s, t, rfl⟩, hc2, ht2⟩
  have B2 : Hid (Below w.heap.size w w2) := ht2.below hb1 (by omega) (by omega)
  have z2 := ht2.size
  obtain ⟨R, v, hE⟩ := is_any p q r s t
  have HE : Hid _ := hE
  have hR := hE.2.2.2.2
  clear hE ht2 hb1 hc1
  go_wp2_with fail
  refine (HE.out.2.1 _).mono ?_
  rintro e w3 ⟨rfl, hb3⟩
  have z3 := hb3.size
  have B3 : Hid (Below w.heap.size w w3) := B2.out.trans (hb3.mono (by omega))
  have hc3 : Cur w.heap.size a len cap w3 := by
    obtain ⟨i, hi, c1⟩ := hc2.s1
    obtain ⟨h, c2⟩ := hc2.s2
    refine ⟨by have := hc2.lt; omega, later hb3 hc2.s0, ⟨i, hi, later hb3 c1⟩, ⟨h, later hb3 c2⟩, fun j => (hb3.frozen (p := ⟨w.heap.size, j, none⟩) hc2.lt).trans (hc2.fz j), fun hl => ?_⟩
    obtain ⟨b, off, ha, hb', hbg, hz⟩ := hc2.by8 hl
    exact ⟨b, off, ha, by omega, hbg, fun j hj => by obtain ⟨z, z0, z1, cz⟩ := hz j hj; exact ⟨z, z0, z1, later hb3 cz⟩⟩
  clear hb3 hc2
  go_wp2_with fail
  refine (below_any w.heap.size a len cap _ _ hl hc3 (by omega)).mono ?_
  rintro e w4 ⟨k, rfl, hk, hc4, ht4⟩
  have z4 := ht4.size
  have B4 : Hid (Below w.heap.size w w4) := ht4.below B3.out (by omega) (by omega)
  clear ht4 hc3
  go_wp2_with fail
  refine (below_any w.heap.size a len cap _ _ hl hc4 (by omega)).mono ?_
  rintro e w5 ⟨x, rfl, hx, hc5, ht5⟩
  have z5 := ht5.size
  have B5 : Hid (Below w.heap.size w w5) := ht5.below B4.out (by omega) (by omega)
  clear ht5 hc4
  by_cases k0 : k = 0
  · subst k0
    go_wp2
    go_ret
    exact ⟨⟨_, xor_bd _ _, rfl⟩, B5.out⟩
  · by_cases k1 : k = 1
    · subst k1
      go_wp2_with fail
      refine (below_any w.heap.size a len cap _ _ hl hc5 (by omega)).mono ?_
      rintro e w6 ⟨y, rfl, hy, hc6, ht6⟩
      have B6 : Hid (Below w.heap.size w w6) := ht6.below B5.out (by omega) (by omega)
      clear ht6 hc5
      go_wp2
      go_ret
      exact ⟨⟨_, by omega, rfl⟩, B6.out⟩
    · have e0 : (k == 0) = false := by simp [k0]
      have e1 : (k == 1) = false := by simp [k1]
      clear k0 k1
      go_wp2
      go_ret
      exact ⟨⟨_, hR, rfl⟩, B5.out⟩
end Go.Proofs.Ytdkpinbkmjoicaa
