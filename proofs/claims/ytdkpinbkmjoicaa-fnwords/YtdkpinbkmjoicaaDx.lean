import Derived.Test.YtdkpinbkmjoicaaDw
namespace Go.Proofs.Ytdkpinbkmjoicaa
open Go.RowKit
set_option linter.unusedVariables false
set_option linter.unusedSimpArgs false
set_option maxRecDepth 100000 in
set_option maxHeartbeats 8000000 in
theorem draw_any (g : Nat) (a : Option Addr) (len cap : Nat) (w : World) (hl : len ≤ 1048576) (hc : Cur g a len cap w) :
    Calls Try.prog 22 #[.pointer (some ⟨g, 0, none⟩)] w fun e w' => (∃ p q r s t : Int, e = .returned (.agg #[.int .i64 p, .int .i64 q, .int .i64 r, .int .i64 s, .int .i64 t])) ∧ Cur g a len cap w' ∧ Tch g w w' := by
  have hlt := hc.lt
  have hb1 := hc.blk
  have hg1 : w.heap.size ≠ g := by omega
  go_enter Try.func22, Try.ntmps22
  go_wp2_with fail
  refine (below_any g a len cap _ _ hl (hc.alloc _) (by omega)).mono ?_
  rintro e w1 ⟨x1, rfl, hx1, hc1, ht1⟩
  have z1 : w.heap.size < w1.heap.size := by have := ht1.size; simp at this; omega
  have hg2 : w1.heap.size ≠ g := by omega
  have r1 := fun o => ht1.cell (k := w.heap.size) (o := o) (by simp) hg1
  have fr1 := fun o => ht1.frozen (k := w.heap.size) (o := o) (by simp) hg1
  have hne1 : ¬ w.heap.size = w1.heap.size := by omega
  have hne2 : ¬ w1.heap.size = w.heap.size := by omega
  have hcls : 1 + x1 = 1 ∨ 1 + x1 = 2 ∨ (4 ≤ 1 + x1 ∧ 1 + x1 ≤ 9) ∨ 1 + x1 = 11 ∨ (18 ≤ 1 + x1 ∧ 1 + x1 ≤ 20) ∨ (21 ≤ 1 + x1 ∧ 1 + x1 ≤ 33) ∨ 1 + x1 = 34 ∨ (1 + x1 = 3 ∨ 1 + x1 = 10 ∨ (12 ≤ 1 + x1 ∧ 1 + x1 ≤ 17)) := by omega
  clear hc
  have hlt1 : w.heap.size < w1.heap.size + 1 := by omega
  rcases hcls with hk | hk | hk | hk | hk | hk | hk | hk
  · have HK : Hid _ := hk
    clear hk
    go_wp2_with (go_at_call 27; refine (shapeU _ _ HK.out).mono ?_; rintro e w' ⟨rfl, rfl⟩)
    refine (below_any g a len cap _ _ hl (hc1.alloc _) (by omega)).mono ?_
    rintro e w2 ⟨x2, rfl, hx2, hc2, ht2⟩
    have r2 := fun o => ht2.cell (k := w.heap.size) (o := o) (by simp; omega) hg1
    have s2 := fun o => ht2.cell (k := w1.heap.size) (o := o) (by simp) hg2
    have fr2 := fun o => ht2.frozen (k := w.heap.size) (o := o) (by simp; omega) hg1
    have fs2 := fun o => ht2.frozen (k := w1.heap.size) (o := o) (by simp) hg2
    have z2 : w1.heap.size < w2.heap.size := by have := ht2.size; simp at this; omega
    go_wp2_with fail
    refine (immU_any g a len cap _ _ hl (hc2.store hg2 (fun b off hl ha => by have := hb1 b off hl ha; omega)) HK.out).mono ?_
    rintro e w3 ⟨x3, rfl, hc3, ht3⟩
    have r3 := fun o => ht3.cell (k := w.heap.size) (o := o) (by simp; omega) hg1
    have s3 := fun o => ht3.cell (k := w1.heap.size) (o := o) (by simp; omega) hg2
    have fr3 := fun o => ht3.frozen (k := w.heap.size) (o := o) (by simp; omega) hg1
    have fs3 := fun o => ht3.frozen (k := w1.heap.size) (o := o) (by simp; omega) hg2
    have z3 : w1.heap.size < w3.heap.size := by have := ht3.size; simp at this; omega
    go_wp2
    refine bodyPost_ret (v := .agg #[.int .i64 (1 + x1), .int .i64 x2, .int .i64 0, .int .i64 0, .int .i64 x3]) (by first | (simp [results, Try.results22, go_sem, r1, hne1, hne2, r2, s2, fr2, fs2, r3, s3, fr3, fs3]; done) | (simp only [results, Try.results22]; go_simp)) rfl ⟨⟨_, _, _, _, _, rfl⟩, ?_, ?_⟩
    · exact (((((hc3.store hg2 (fun b off hl ha => by have := hb1 b off hl ha; omega)).store hg1 (fun b off hl ha => by have := hb1 b off hl ha; omega)).store hg1 (fun b off hl ha => by have := hb1 b off hl ha; omega)).store hg1 (fun b off hl ha => by have := hb1 b off hl ha; omega)).store hg1 (fun b off hl ha => by have := hb1 b off hl ha; omega)).store hg1 (fun b off hl ha => by have := hb1 b off hl ha; omega)
    · exact ((((((((((((Tch.refl g w).alloc _).trans ht1).alloc _).trans ht2).store (by omega)).trans ht3).store (by omega)).store (Nat.le_refl _)).store (Nat.le_refl _)).store (Nat.le_refl _)).store (Nat.le_refl _)).store (Nat.le_refl _)
  · have HK : Hid _ := hk
    clear hk
    go_wp2_with (go_at_call 27; refine (shapeJ _ _ HK.out).mono ?_; rintro e w' ⟨rfl, rfl⟩)
    refine (below_any g a len cap _ _ hl (hc1.alloc _) (by omega)).mono ?_
    rintro e w2 ⟨x2, rfl, hx2, hc2, ht2⟩
    have r2 := fun o => ht2.cell (k := w.heap.size) (o := o) (by simp; omega) hg1
    have s2 := fun o => ht2.cell (k := w1.heap.size) (o := o) (by simp) hg2
    have fr2 := fun o => ht2.frozen (k := w.heap.size) (o := o) (by simp; omega) hg1
    have fs2 := fun o => ht2.frozen (k := w1.heap.size) (o := o) (by simp) hg2
    have z2 : w1.heap.size < w2.heap.size := by have := ht2.size; simp at this; omega
    go_wp2_with fail
    refine (immJ_any g a len cap _ _ hl (hc2.store hg2 (fun b off hl ha => by have := hb1 b off hl ha; omega)) HK.out).mono ?_
    rintro e w3 ⟨x3, rfl, hc3, ht3⟩
    have r3 := fun o => ht3.cell (k := w.heap.size) (o := o) (by simp; omega) hg1
    have s3 := fun o => ht3.cell (k := w1.heap.size) (o := o) (by simp; omega) hg2
    have fr3 := fun o => ht3.frozen (k := w.heap.size) (o := o) (by simp; omega) hg1
    have fs3 := fun o => ht3.frozen (k := w1.heap.size) (o := o) (by simp; omega) hg2
    have z3 : w1.heap.size < w3.heap.size := by have := ht3.size; simp at this; omega
    go_wp2
    refine bodyPost_ret (v := .agg #[.int .i64 (1 + x1), .int .i64 x2, .int .i64 0, .int .i64 0, .int .i64 x3]) (by first | (simp [results, Try.results22, go_sem, r1, hne1, hne2, r2, s2, fr2, fs2, r3, s3, fr3, fs3]; done) | (simp only [results, Try.results22]; go_simp)) rfl ⟨⟨_, _, _, _, _, rfl⟩, ?_, ?_⟩
    · exact (((((hc3.store hg2 (fun b off hl ha => by have := hb1 b off hl ha; omega)).store hg1 (fun b off hl ha => by have := hb1 b off hl ha; omega)).store hg1 (fun b off hl ha => by have := hb1 b off hl ha; omega)).store hg1 (fun b off hl ha => by have := hb1 b off hl ha; omega)).store hg1 (fun b off hl ha => by have := hb1 b off hl ha; omega)).store hg1 (fun b off hl ha => by have := hb1 b off hl ha; omega)
    · exact ((((((((((((Tch.refl g w).alloc _).trans ht1).alloc _).trans ht2).store (by omega)).trans ht3).store (by omega)).store (Nat.le_refl _)).store (Nat.le_refl _)).store (Nat.le_refl _)).store (Nat.le_refl _)).store (Nat.le_refl _)
  · have HK : Hid _ := hk
    clear hk
    go_wp2_with (go_at_call 27; refine (shapeB _ _ HK.out).mono ?_; rintro e w' ⟨rfl, rfl⟩)
    refine (below_any g a len cap _ _ hl (hc1.alloc _) (by omega)).mono ?_
    rintro e w2 ⟨x2, rfl, hx2, hc2, ht2⟩
    have r2 := fun o => ht2.cell (k := w.heap.size) (o := o) (by simp; omega) hg1
    have s2 := fun o => ht2.cell (k := w1.heap.size) (o := o) (by simp) hg2
    have fr2 := fun o => ht2.frozen (k := w.heap.size) (o := o) (by simp; omega) hg1
    have fs2 := fun o => ht2.frozen (k := w1.heap.size) (o := o) (by simp) hg2
    have z2 : w1.heap.size < w2.heap.size := by have := ht2.size; simp at this; omega
    go_wp2_with fail
    refine (below_any g a len cap _ _ hl (hc2.store hg2 (fun b off hl ha => by have := hb1 b off hl ha; omega)) (by omega)).mono ?_
    rintro e w3 ⟨x3, rfl, hx3, hc3, ht3⟩
    have r3 := fun o => ht3.cell (k := w.heap.size) (o := o) (by simp; omega) hg1
    have s3 := fun o => ht3.cell (k := w1.heap.size) (o := o) (by simp; omega) hg2
    have fr3 := fun o => ht3.frozen (k := w.heap.size) (o := o) (by simp; omega) hg1
    have fs3 := fun o => ht3.frozen (k := w1.heap.size) (o := o) (by simp; omega) hg2
    have z3 : w1.heap.size < w3.heap.size := by have := ht3.size; simp at this; omega
    go_wp2_with fail
    refine (immB_any g a len cap _ _ hl (hc3.store hg2 (fun b off hl ha => by have := hb1 b off hl ha; omega)) HK.out).mono ?_
    rintro e w4 ⟨x4, rfl, hc4, ht4⟩
    have r4 := fun o => ht4.cell (k := w.heap.size) (o := o) (by simp; omega) hg1
    have s4 := fun o => ht4.cell (k := w1.heap.size) (o := o) (by simp; omega) hg2
    have fr4 := fun o => ht4.frozen (k := w.heap.size) (o := o) (by simp; omega) hg1
    have fs4 := fun o => ht4.frozen (k := w1.heap.size) (o := o) (by simp; omega) hg2
    have z4 : w1.heap.size < w4.heap.size := by have := ht4.size; simp at this; omega
    go_wp2
    refine bodyPost_ret (v := .agg #[.int .i64 (1 + x1), .int .i64 0, .int .i64 x2, .int .i64 x3, .int .i64 x4]) (by first | (simp [results, Try.results22, go_sem, r1, hne1, hne2, r2, s2, fr2, fs2, r3, s3, fr3, fs3, r4, s4, fr4, fs4]; done) | (simp only [results, Try.results22]; go_simp)) rfl ⟨⟨_, _, _, _, _, rfl⟩, ?_, ?_⟩
    · exact (((((hc4.store hg2 (fun b off hl ha => by have := hb1 b off hl ha; omega)).store hg1 (fun b off hl ha => by have := hb1 b off hl ha; omega)).store hg1 (fun b off hl ha => by have := hb1 b off hl ha; omega)).store hg1 (fun b off hl ha => by have := hb1 b off hl ha; omega)).store hg1 (fun b off hl ha => by have := hb1 b off hl ha; omega)).store hg1 (fun b off hl ha => by have := hb1 b off hl ha; omega)
    · exact ((((((((((((((Tch.refl g w).alloc _).trans ht1).alloc _).trans ht2).store (by omega)).trans ht3).store (by omega)).trans ht4).store (by omega)).store (Nat.le_refl _)).store (Nat.le_refl _)).store (Nat.le_refl _)).store (Nat.le_refl _)).store (Nat.le_refl _)
  · have HK : Hid _ := hk
    clear hk
    go_wp2_with (go_at_call 27; refine (shapeS _ _ HK.out).mono ?_; rintro e w' ⟨rfl, rfl⟩)
    refine (below_any g a len cap _ _ hl (hc1.alloc _) (by omega)).mono ?_
    rintro e w2 ⟨x2, rfl, hx2, hc2, ht2⟩
    have r2 := fun o => ht2.cell (k := w.heap.size) (o := o) (by simp; omega) hg1
    have s2 := fun o => ht2.cell (k := w1.heap.size) (o := o) (by simp) hg2
    have fr2 := fun o => ht2.frozen (k := w.heap.size) (o := o) (by simp; omega) hg1
    have fs2 := fun o => ht2.frozen (k := w1.heap.size) (o := o) (by simp) hg2
    have z2 : w1.heap.size < w2.heap.size := by have := ht2.size; simp at this; omega
    go_wp2_with fail
    refine (below_any g a len cap _ _ hl (hc2.store hg2 (fun b off hl ha => by have := hb1 b off hl ha; omega)) (by omega)).mono ?_
    rintro e w3 ⟨x3, rfl, hx3, hc3, ht3⟩
    have r3 := fun o => ht3.cell (k := w.heap.size) (o := o) (by simp; omega) hg1
    have s3 := fun o => ht3.cell (k := w1.heap.size) (o := o) (by simp; omega) hg2
    have fr3 := fun o => ht3.frozen (k := w.heap.size) (o := o) (by simp; omega) hg1
    have fs3 := fun o => ht3.frozen (k := w1.heap.size) (o := o) (by simp; omega) hg2
    have z3 : w1.heap.size < w3.heap.size := by have := ht3.size; simp at this; omega
    go_wp2_with fail
    refine (immS_any g a len cap _ _ hl (hc3.store hg2 (fun b off hl ha => by have := hb1 b off hl ha; omega)) HK.out).mono ?_
    rintro e w4 ⟨x4, rfl, hc4, ht4⟩
    have r4 := fun o => ht4.cell (k := w.heap.size) (o := o) (by simp; omega) hg1
    have s4 := fun o => ht4.cell (k := w1.heap.size) (o := o) (by simp; omega) hg2
    have fr4 := fun o => ht4.frozen (k := w.heap.size) (o := o) (by simp; omega) hg1
    have fs4 := fun o => ht4.frozen (k := w1.heap.size) (o := o) (by simp; omega) hg2
    have z4 : w1.heap.size < w4.heap.size := by have := ht4.size; simp at this; omega
    go_wp2
    refine bodyPost_ret (v := .agg #[.int .i64 (1 + x1), .int .i64 0, .int .i64 x2, .int .i64 x3, .int .i64 x4]) (by first | (simp [results, Try.results22, go_sem, r1, hne1, hne2, r2, s2, fr2, fs2, r3, s3, fr3, fs3, r4, s4, fr4, fs4]; done) | (simp only [results, Try.results22]; go_simp)) rfl ⟨⟨_, _, _, _, _, rfl⟩, ?_, ?_⟩
    · exact (((((hc4.store hg2 (fun b off hl ha => by have := hb1 b off hl ha; omega)).store hg1 (fun b off hl ha => by have := hb1 b off hl ha; omega)).store hg1 (fun b off hl ha => by have := hb1 b off hl ha; omega)).store hg1 (fun b off hl ha => by have := hb1 b off hl ha; omega)).store hg1 (fun b off hl ha => by have := hb1 b off hl ha; omega)).store hg1 (fun b off hl ha => by have := hb1 b off hl ha; omega)
    · exact ((((((((((((((Tch.refl g w).alloc _).trans ht1).alloc _).trans ht2).store (by omega)).trans ht3).store (by omega)).trans ht4).store (by omega)).store (Nat.le_refl _)).store (Nat.le_refl _)).store (Nat.le_refl _)).store (Nat.le_refl _)).store (Nat.le_refl _)
  · have HK : Hid _ := hk
    clear hk
    go_wp2_with (go_at_call 27; refine (shapeH _ _ HK.out).mono ?_; rintro e w' ⟨rfl, rfl⟩)
    refine (below_any g a len cap _ _ hl (hc1.alloc _) (by omega)).mono ?_
    rintro e w2 ⟨x2, rfl, hx2, hc2, ht2⟩
    have r2 := fun o => ht2.cell (k := w.heap.size) (o := o) (by simp; omega) hg1
    have s2 := fun o => ht2.cell (k := w1.heap.size) (o := o) (by simp) hg2
    have fr2 := fun o => ht2.frozen (k := w.heap.size) (o := o) (by simp; omega) hg1
    have fs2 := fun o => ht2.frozen (k := w1.heap.size) (o := o) (by simp) hg2
    have z2 : w1.heap.size < w2.heap.size := by have := ht2.size; simp at this; omega
    go_wp2_with fail
    refine (below_any g a len cap _ _ hl (hc2.store hg2 (fun b off hl ha => by have := hb1 b off hl ha; omega)) (by omega)).mono ?_
    rintro e w3 ⟨x3, rfl, hx3, hc3, ht3⟩
    have r3 := fun o => ht3.cell (k := w.heap.size) (o := o) (by simp; omega) hg1
    have s3 := fun o => ht3.cell (k := w1.heap.size) (o := o) (by simp; omega) hg2
    have fr3 := fun o => ht3.frozen (k := w.heap.size) (o := o) (by simp; omega) hg1
    have fs3 := fun o => ht3.frozen (k := w1.heap.size) (o := o) (by simp; omega) hg2
    have z3 : w1.heap.size < w3.heap.size := by have := ht3.size; simp at this; omega
    go_wp2_with fail
    refine (immH_any g a len cap _ _ hl (hc3.store hg2 (fun b off hl ha => by have := hb1 b off hl ha; omega)) HK.out).mono ?_
    rintro e w4 ⟨x4, rfl, hc4, ht4⟩
    have r4 := fun o => ht4.cell (k := w.heap.size) (o := o) (by simp; omega) hg1
    have s4 := fun o => ht4.cell (k := w1.heap.size) (o := o) (by simp; omega) hg2
    have fr4 := fun o => ht4.frozen (k := w.heap.size) (o := o) (by simp; omega) hg1
    have fs4 := fun o => ht4.frozen (k := w1.heap.size) (o := o) (by simp; omega) hg2
    have z4 : w1.heap.size < w4.heap.size := by have := ht4.size; simp at this; omega
    go_wp2
    refine bodyPost_ret (v := .agg #[.int .i64 (1 + x1), .int .i64 x2, .int .i64 x3, .int .i64 0, .int .i64 x4]) (by first | (simp [results, Try.results22, go_sem, r1, hne1, hne2, r2, s2, fr2, fs2, r3, s3, fr3, fs3, r4, s4, fr4, fs4]; done) | (simp only [results, Try.results22]; go_simp)) rfl ⟨⟨_, _, _, _, _, rfl⟩, ?_, ?_⟩
    · exact (((((hc4.store hg2 (fun b off hl ha => by have := hb1 b off hl ha; omega)).store hg1 (fun b off hl ha => by have := hb1 b off hl ha; omega)).store hg1 (fun b off hl ha => by have := hb1 b off hl ha; omega)).store hg1 (fun b off hl ha => by have := hb1 b off hl ha; omega)).store hg1 (fun b off hl ha => by have := hb1 b off hl ha; omega)).store hg1 (fun b off hl ha => by have := hb1 b off hl ha; omega)
    · exact ((((((((((((((Tch.refl g w).alloc _).trans ht1).alloc _).trans ht2).store (by omega)).trans ht3).store (by omega)).trans ht4).store (by omega)).store (Nat.le_refl _)).store (Nat.le_refl _)).store (Nat.le_refl _)).store (Nat.le_refl _)).store (Nat.le_refl _)
  · have HK : Hid _ := hk
    clear hk
    go_wp2_with (go_at_call 27; refine (shapeR _ _ HK.out).mono ?_; rintro e w' ⟨rfl, rfl⟩)
    refine (below_any g a len cap _ _ hl (hc1.alloc _) (by omega)).mono ?_
    rintro e w2 ⟨x2, rfl, hx2, hc2, ht2⟩
    have r2 := fun o => ht2.cell (k := w.heap.size) (o := o) (by simp; omega) hg1
    have s2 := fun o => ht2.cell (k := w1.heap.size) (o := o) (by simp) hg2
    have fr2 := fun o => ht2.frozen (k := w.heap.size) (o := o) (by simp; omega) hg1
    have fs2 := fun o => ht2.frozen (k := w1.heap.size) (o := o) (by simp) hg2
    have z2 : w1.heap.size < w2.heap.size := by have := ht2.size; simp at this; omega
    go_wp2_with fail
    refine (below_any g a len cap _ _ hl (hc2.store hg2 (fun b off hl ha => by have := hb1 b off hl ha; omega)) (by omega)).mono ?_
    rintro e w3 ⟨x3, rfl, hx3, hc3, ht3⟩
    have r3 := fun o => ht3.cell (k := w.heap.size) (o := o) (by simp; omega) hg1
    have s3 := fun o => ht3.cell (k := w1.heap.size) (o := o) (by simp; omega) hg2
    have fr3 := fun o => ht3.frozen (k := w.heap.size) (o := o) (by simp; omega) hg1
    have fs3 := fun o => ht3.frozen (k := w1.heap.size) (o := o) (by simp; omega) hg2
    have z3 : w1.heap.size < w3.heap.size := by have := ht3.size; simp at this; omega
    go_wp2_with fail
    refine (below_any g a len cap _ _ hl (hc3.store hg2 (fun b off hl ha => by have := hb1 b off hl ha; omega)) (by omega)).mono ?_
    rintro e w4 ⟨x4, rfl, hx4, hc4, ht4⟩
    have r4 := fun o => ht4.cell (k := w.heap.size) (o := o) (by simp; omega) hg1
    have s4 := fun o => ht4.cell (k := w1.heap.size) (o := o) (by simp; omega) hg2
    have fr4 := fun o => ht4.frozen (k := w.heap.size) (o := o) (by simp; omega) hg1
    have fs4 := fun o => ht4.frozen (k := w1.heap.size) (o := o) (by simp; omega) hg2
    have z4 : w1.heap.size < w4.heap.size := by have := ht4.size; simp at this; omega
    go_wp2
    refine bodyPost_ret (v := .agg #[.int .i64 (1 + x1), .int .i64 x2, .int .i64 x3, .int .i64 x4, .int .i64 0]) (by first | (simp [results, Try.results22, go_sem, r1, hne1, hne2, r2, s2, fr2, fs2, r3, s3, fr3, fs3, r4, s4, fr4, fs4]; done) | (simp only [results, Try.results22]; go_simp)) rfl ⟨⟨_, _, _, _, _, rfl⟩, ?_, ?_⟩
    · exact (((((hc4.store hg2 (fun b off hl ha => by have := hb1 b off hl ha; omega)).store hg1 (fun b off hl ha => by have := hb1 b off hl ha; omega)).store hg1 (fun b off hl ha => by have := hb1 b off hl ha; omega)).store hg1 (fun b off hl ha => by have := hb1 b off hl ha; omega)).store hg1 (fun b off hl ha => by have := hb1 b off hl ha; omega)).store hg1 (fun b off hl ha => by have := hb1 b off hl ha; omega)
    · exact ((((((((((((((Tch.refl g w).alloc _).trans ht1).alloc _).trans ht2).store (by omega)).trans ht3).store (by omega)).trans ht4).store (by omega)).store (Nat.le_refl _)).store (Nat.le_refl _)).store (Nat.le_refl _)).store (Nat.le_refl _)).store (Nat.le_refl _)
  · have HK : Hid _ := hk
    clear hk
    go_wp2_with (go_at_call 27; refine (shapeE _ _ HK.out).mono ?_; rintro e w' ⟨rfl, rfl⟩)
    refine bodyPost_ret (v := .agg #[.int .i64 (1 + x1), .int .i64 0, .int .i64 0, .int .i64 0, .int .i64 0]) (by first | (simp [results, Try.results22, go_sem, r1, hne1, hne2]; done) | (simp only [results, Try.results22]; go_simp)) rfl ⟨⟨_, _, _, _, _, rfl⟩, ?_, ?_⟩
    · exact ((((((hc1).store hg1 (fun b off hl ha => by have := hb1 b off hl ha; omega)).store hg1 (fun b off hl ha => by have := hb1 b off hl ha; omega)).store hg1 (fun b off hl ha => by have := hb1 b off hl ha; omega)).store hg1 (fun b off hl ha => by have := hb1 b off hl ha; omega)).store hg1 (fun b off hl ha => by have := hb1 b off hl ha; omega)).alloc _
    · exact ((((((((Tch.refl g w).alloc _).trans ht1).store (Nat.le_refl _)).store (Nat.le_refl _)).store (Nat.le_refl _)).store (Nat.le_refl _)).store (Nat.le_refl _)).alloc _
  · have HK : Hid _ := hk
    clear hk
    go_wp2_with (go_at_call 27; refine (shapeI _ _ HK.out).mono ?_; rintro e w' ⟨rfl, rfl⟩)
    refine (below_any g a len cap _ _ hl (hc1.alloc _) (by omega)).mono ?_
    rintro e w2 ⟨x2, rfl, hx2, hc2, ht2⟩
    have r2 := fun o => ht2.cell (k := w.heap.size) (o := o) (by simp; omega) hg1
    have s2 := fun o => ht2.cell (k := w1.heap.size) (o := o) (by simp) hg2
    have fr2 := fun o => ht2.frozen (k := w.heap.size) (o := o) (by simp; omega) hg1
    have fs2 := fun o => ht2.frozen (k := w1.heap.size) (o := o) (by simp) hg2
    have z2 : w1.heap.size < w2.heap.size := by have := ht2.size; simp at this; omega
    go_wp2_with fail
    refine (below_any g a len cap _ _ hl (hc2.store hg2 (fun b off hl ha => by have := hb1 b off hl ha; omega)) (by omega)).mono ?_
    rintro e w3 ⟨x3, rfl, hx3, hc3, ht3⟩
    have r3 := fun o => ht3.cell (k := w.heap.size) (o := o) (by simp; omega) hg1
    have s3 := fun o => ht3.cell (k := w1.heap.size) (o := o) (by simp; omega) hg2
    have fr3 := fun o => ht3.frozen (k := w.heap.size) (o := o) (by simp; omega) hg1
    have fs3 := fun o => ht3.frozen (k := w1.heap.size) (o := o) (by simp; omega) hg2
    have z3 : w1.heap.size < w3.heap.size := by have := ht3.size; simp at this; omega
    go_wp2_with fail
    refine (immI_any g a len cap _ _ hl (hc3.store hg2 (fun b off hl ha => by have := hb1 b off hl ha; omega)) HK.out).mono ?_
    rintro e w4 ⟨x4, rfl, hc4, ht4⟩
    have r4 := fun o => ht4.cell (k := w.heap.size) (o := o) (by simp; omega) hg1
    have s4 := fun o => ht4.cell (k := w1.heap.size) (o := o) (by simp; omega) hg2
    have fr4 := fun o => ht4.frozen (k := w.heap.size) (o := o) (by simp; omega) hg1
    have fs4 := fun o => ht4.frozen (k := w1.heap.size) (o := o) (by simp; omega) hg2
    have z4 : w1.heap.size < w4.heap.size := by have := ht4.size; simp at this; omega
    go_wp2
    refine bodyPost_ret (v := .agg #[.int .i64 (1 + x1), .int .i64 x2, .int .i64 x3, .int .i64 0, .int .i64 x4]) (by first | (simp [results, Try.results22, go_sem, r1, hne1, hne2, r2, s2, fr2, fs2, r3, s3, fr3, fs3, r4, s4, fr4, fs4]; done) | (simp only [results, Try.results22]; go_simp)) rfl ⟨⟨_, _, _, _, _, rfl⟩, ?_, ?_⟩
    · exact (((((hc4.store hg2 (fun b off hl ha => by have := hb1 b off hl ha; omega)).store hg1 (fun b off hl ha => by have := hb1 b off hl ha; omega)).store hg1 (fun b off hl ha => by have := hb1 b off hl ha; omega)).store hg1 (fun b off hl ha => by have := hb1 b off hl ha; omega)).store hg1 (fun b off hl ha => by have := hb1 b off hl ha; omega)).store hg1 (fun b off hl ha => by have := hb1 b off hl ha; omega)
    · exact ((((((((((((((Tch.refl g w).alloc _).trans ht1).alloc _).trans ht2).store (by omega)).trans ht3).store (by omega)).trans ht4).store (by omega)).store (Nat.le_refl _)).store (Nat.le_refl _)).store (Nat.le_refl _)).store (Nat.le_refl _)).store (Nat.le_refl _)
end Go.Proofs.Ytdkpinbkmjoicaa
