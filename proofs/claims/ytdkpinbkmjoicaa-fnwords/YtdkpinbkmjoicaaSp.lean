import Derived.Test.YtdkpinbkmjoicaaDw
namespace Go.Proofs.Ytdkpinbkmjoicaa
open Go.RowKit
set_option linter.unusedVariables false
set_option linter.unusedSimpArgs false
set_option maxRecDepth 100000 in
set_option maxHeartbeats 8000000 in
theorem spoil_any (g : Nat) (a : Option Addr) (len cap : Nat) (p q r s t : Int) (w : World) (hl : len ≤ 1048576) (hc : Cur g a len cap w) :
    Calls Try.prog 24 #[.pointer (some ⟨g, 0, none⟩), .agg #[.int .i64 p, .int .i64 q, .int .i64 r, .int .i64 s, .int .i64 t]] w fun e w' => (∃ p q r s t : Int, e = .returned (.agg #[.int .i64 p, .int .i64 q, .int .i64 r, .int .i64 s, .int .i64 t])) ∧ Cur g a len cap w' ∧ Tch g w w' := by
  have hlt := hc.lt
  have hb1 := hc.blk
  have hg1 : w.heap.size ≠ g := by omega
  have hg2 : w.heap.size + 1 ≠ g := by omega
  go_enter Try.func24, Try.ntmps24
  go_wp2_with fail
  refine (below_any g a len cap _ _ hl ((hc.alloc _).alloc _) (by omega)).mono ?_
  rintro e w1 ⟨x1, rfl, hx1, hc1, ht1⟩
  have z1 : w.heap.size + 1 < w1.heap.size := by have := ht1.size; simp at this; omega
  have r1 := fun o => ht1.cell (k := w.heap.size) (o := o) (by simp; omega) hg1
  have s1' := fun o => ht1.cell (k := w.heap.size + 1) (o := o) (by simp) hg2
  have fr1 := fun o => ht1.frozen (k := w.heap.size) (o := o) (by simp; omega) hg1
  have fs1 := fun o => ht1.frozen (k := w.heap.size + 1) (o := o) (by simp) hg2
  clear hc
  have hk : x1 = 0 ∨ x1 = 1 ∨ x1 = 2 ∨ x1 = 3 ∨ x1 = 4 ∨ x1 = 5 := by omega
  rcases hk with rfl | rfl | rfl | rfl | rfl | rfl
  · go_wp2_with fail
    refine (below_any g a len cap _ _ hl hc1 (by omega)).mono ?_
    rintro e w2 ⟨x2, rfl, hx2, hc2, ht2⟩
    have z2 : w.heap.size + 1 < w2.heap.size := by have := ht2.size; omega
    have r2 := fun o => ht2.cell (k := w.heap.size) (o := o) (by omega) hg1
    have s2' := fun o => ht2.cell (k := w.heap.size + 1) (o := o) (by omega) hg2
    have fr2 := fun o => ht2.frozen (k := w.heap.size) (o := o) (by omega) hg1
    have fs2 := fun o => ht2.frozen (k := w.heap.size + 1) (o := o) (by omega) hg2
    go_wp2
    refine bodyPost_ret (v := .agg #[.int .i64 (35 * x2), .int .i64 (q), .int .i64 (r), .int .i64 (s), .int .i64 (t)]) (by first | (simp [results, Try.results24, go_sem, r1, s1', fr1, fs1, r2, s2', fr2, fs2]; done) | (simp only [results, Try.results24]; go_simp)) rfl ⟨⟨_, _, _, _, _, rfl⟩, ?_, ?_⟩
    · exact (((((hc2.store hg1 (fun b off hl ha => by have := hb1 b off hl ha; omega)).store hg2 (fun b off hl ha => by have := hb1 b off hl ha; omega)).store hg2 (fun b off hl ha => by have := hb1 b off hl ha; omega)).store hg2 (fun b off hl ha => by have := hb1 b off hl ha; omega)).store hg2 (fun b off hl ha => by have := hb1 b off hl ha; omega)).store hg2 (fun b off hl ha => by have := hb1 b off hl ha; omega)
    · exact ((((((((((Tch.refl g w).alloc _).alloc _).trans ht1).trans ht2).store (Nat.le_refl _)).store (Nat.le_succ _)).store (Nat.le_succ _)).store (Nat.le_succ _)).store (Nat.le_succ _)).store (Nat.le_succ _)
  · go_wp2_with fail
    refine (below_any g a len cap _ _ hl hc1 (by omega)).mono ?_
    rintro e w2 ⟨x2, rfl, hx2, hc2, ht2⟩
    have z2 : w.heap.size + 1 < w2.heap.size := by have := ht2.size; omega
    have r2 := fun o => ht2.cell (k := w.heap.size) (o := o) (by omega) hg1
    have s2' := fun o => ht2.cell (k := w.heap.size + 1) (o := o) (by omega) hg2
    have fr2 := fun o => ht2.frozen (k := w.heap.size) (o := o) (by omega) hg1
    have fs2 := fun o => ht2.frozen (k := w.heap.size + 1) (o := o) (by omega) hg2
    go_wp2
    refine bodyPost_ret (v := .agg #[.int .i64 (p), .int .i64 (32 - 33 * x2), .int .i64 (r), .int .i64 (s), .int .i64 (t)]) (by first | (simp [results, Try.results24, go_sem, r1, s1', fr1, fs1, r2, s2', fr2, fs2]; done) | (simp only [results, Try.results24]; go_simp)) rfl ⟨⟨_, _, _, _, _, rfl⟩, ?_, ?_⟩
    · exact (((((hc2.store hg1 (fun b off hl ha => by have := hb1 b off hl ha; omega)).store hg2 (fun b off hl ha => by have := hb1 b off hl ha; omega)).store hg2 (fun b off hl ha => by have := hb1 b off hl ha; omega)).store hg2 (fun b off hl ha => by have := hb1 b off hl ha; omega)).store hg2 (fun b off hl ha => by have := hb1 b off hl ha; omega)).store hg2 (fun b off hl ha => by have := hb1 b off hl ha; omega)
    · exact ((((((((((Tch.refl g w).alloc _).alloc _).trans ht1).trans ht2).store (Nat.le_refl _)).store (Nat.le_succ _)).store (Nat.le_succ _)).store (Nat.le_succ _)).store (Nat.le_succ _)).store (Nat.le_succ _)
  · go_wp2
    refine bodyPost_ret (v := .agg #[.int .i64 (p), .int .i64 (q), .int .i64 (wrap64 (r + 1)), .int .i64 (s), .int .i64 (t)]) (by first | (simp [results, Try.results24, go_sem, r1, s1', fr1, fs1]; done) | (simp only [results, Try.results24]; go_simp)) rfl ⟨⟨_, _, _, _, _, rfl⟩, ?_, ?_⟩
    · exact (((((hc1.store hg1 (fun b off hl ha => by have := hb1 b off hl ha; omega)).store hg2 (fun b off hl ha => by have := hb1 b off hl ha; omega)).store hg2 (fun b off hl ha => by have := hb1 b off hl ha; omega)).store hg2 (fun b off hl ha => by have := hb1 b off hl ha; omega)).store hg2 (fun b off hl ha => by have := hb1 b off hl ha; omega)).store hg2 (fun b off hl ha => by have := hb1 b off hl ha; omega)
    · exact (((((((((Tch.refl g w).alloc _).alloc _).trans ht1).store (Nat.le_refl _)).store (Nat.le_succ _)).store (Nat.le_succ _)).store (Nat.le_succ _)).store (Nat.le_succ _)).store (Nat.le_succ _)
  · go_wp2
    refine bodyPost_ret (v := .agg #[.int .i64 (p), .int .i64 (q), .int .i64 (r), .int .i64 (wrap64 (s + 1)), .int .i64 (t)]) (by first | (simp [results, Try.results24, go_sem, r1, s1', fr1, fs1]; done) | (simp only [results, Try.results24]; go_simp)) rfl ⟨⟨_, _, _, _, _, rfl⟩, ?_, ?_⟩
    · exact (((((hc1.store hg1 (fun b off hl ha => by have := hb1 b off hl ha; omega)).store hg2 (fun b off hl ha => by have := hb1 b off hl ha; omega)).store hg2 (fun b off hl ha => by have := hb1 b off hl ha; omega)).store hg2 (fun b off hl ha => by have := hb1 b off hl ha; omega)).store hg2 (fun b off hl ha => by have := hb1 b off hl ha; omega)).store hg2 (fun b off hl ha => by have := hb1 b off hl ha; omega)
    · exact (((((((((Tch.refl g w).alloc _).alloc _).trans ht1).store (Nat.le_refl _)).store (Nat.le_succ _)).store (Nat.le_succ _)).store (Nat.le_succ _)).store (Nat.le_succ _)).store (Nat.le_succ _)
  · go_wp2
    refine bodyPost_ret (v := .agg #[.int .i64 (p), .int .i64 (q), .int .i64 (r), .int .i64 (s), .int .i64 (wrap64 (t + 1))]) (by first | (simp [results, Try.results24, go_sem, r1, s1', fr1, fs1]; done) | (simp only [results, Try.results24]; go_simp)) rfl ⟨⟨_, _, _, _, _, rfl⟩, ?_, ?_⟩
    · exact (((((hc1.store hg1 (fun b off hl ha => by have := hb1 b off hl ha; omega)).store hg2 (fun b off hl ha => by have := hb1 b off hl ha; omega)).store hg2 (fun b off hl ha => by have := hb1 b off hl ha; omega)).store hg2 (fun b off hl ha => by have := hb1 b off hl ha; omega)).store hg2 (fun b off hl ha => by have := hb1 b off hl ha; omega)).store hg2 (fun b off hl ha => by have := hb1 b off hl ha; omega)
    · exact (((((((((Tch.refl g w).alloc _).alloc _).trans ht1).store (Nat.le_refl _)).store (Nat.le_succ _)).store (Nat.le_succ _)).store (Nat.le_succ _)).store (Nat.le_succ _)).store (Nat.le_succ _)
  · go_wp2
    refine bodyPost_ret (v := .agg #[.int .i64 (p), .int .i64 (q), .int .i64 (r), .int .i64 (s), .int .i64 (wrap64 (t - 1))]) (by first | (simp [results, Try.results24, go_sem, r1, s1', fr1, fs1]; done) | (simp only [results, Try.results24]; go_simp)) rfl ⟨⟨_, _, _, _, _, rfl⟩, ?_, ?_⟩
    · exact (((((hc1.store hg1 (fun b off hl ha => by have := hb1 b off hl ha; omega)).store hg2 (fun b off hl ha => by have := hb1 b off hl ha; omega)).store hg2 (fun b off hl ha => by have := hb1 b off hl ha; omega)).store hg2 (fun b off hl ha => by have := hb1 b off hl ha; omega)).store hg2 (fun b off hl ha => by have := hb1 b off hl ha; omega)).store hg2 (fun b off hl ha => by have := hb1 b off hl ha; omega)
    · exact (((((((((Tch.refl g w).alloc _).alloc _).trans ht1).store (Nat.le_refl _)).store (Nat.le_succ _)).store (Nat.le_succ _)).store (Nat.le_succ _)).store (Nat.le_succ _)).store (Nat.le_succ _)
end Go.Proofs.Ytdkpinbkmjoicaa
