import Derived.Test.YtabjcodpagjbjaaGreatK04
namespace Go.Proofs.YtabjcodpagjbjaaGreat
open Go.RowKit
set_option linter.unusedVariables false
set_option linter.unusedSimpArgs false

set_option maxRecDepth 8000 in
set_option maxHeartbeats 1000000 in
theorem exI18 (C : Nat) (L : List Nat) (c : Mc)  (rd s1 s2 : Nat) (im : Int) (w : World) (hG : Good c) (h : CpuIn w C L c) (r : Int) (hrd : rd < 32) (h1 : s1 < 32) (h2 : s2 < 32)
    (hst : c.st = 0) (hA : AluIs 18 (c.regs.getD s1 0) (im % 4294967296) r) :
    Calls Tryz.prog 52 #[.pointer (some ⟨C, 0, none⟩), .agg #[.int .i64 18, .int .i64 rd, .int .i64 s1, .int .i64 s2, .int .i64 im]] w fun e w' =>
      e = .returned (.bool true) ∧ CpuIn w' C L { setR c rd r with pc := (c.pc + 4) % 4294967296 } ∧ Tcs (fun g => g ∈ L) w w' := by
  have T0 := (Tcs.refl (fun g => g ∈ L) w).alloc (.cells #[.int .i64 18, .int .i64 rd, .int .i64 s1, .int .i64 s2, .int .i64 im] 52)
  have h0 := h.below ((Below.refl w.heap.size w).alloc (Nat.le_refl _) (.cells #[.int .i64 18, .int .i64 rd, .int .i64 s1, .int .i64 s2, .int .i64 im] 52))
  obtain ⟨rv, d, s, i, o, hb, hr, hd, hs, hi, ho, hk, hL, hnd⟩ := id h0
  obtain ⟨g, off, cap, rfl, hR, hbk⟩ := lis_some hr (by have := hG.r32; omega)
  have e32 := hG.r32
  have c0 := hb.c0
  rw [e32] at c0
  have c1 := hb.c1
  have cs1 := hR.cell s1 (by omega)
  have cs2 := hR.cell s2 (by omega)
  have X0 : ∀ {W : World}, Tcs (fun g => g ∈ L) (w.alloc (.cells #[.int .i64 18, .int .i64 rd, .int .i64 s1, .int .i64 s2, .int .i64 im] 52)) W → W.cell? ⟨w.heap.size, 0, none⟩ = some (.int .i64 18) ∧ W.cell? ⟨w.heap.size, 1, none⟩ = some (.int .i64 rd) := by
    intro W hW
    have hkb := hW.block w.heap.size (by simp) (fun hm => by have := h.lt _ hm; omega)
    constructor <;> (rw [World.cell?_of_block (w := w.alloc _) hkb]; simp)
  have HS : Hid (∀ W v, Below (w.alloc (.cells #[.int .i64 18, .int .i64 rd, .int .i64 s1, .int .i64 s2, .int .i64 im] 52)).heap.size (w.alloc (.cells #[.int .i64 18, .int .i64 rd, .int .i64 s1, .int .i64 s2, .int .i64 im] 52)) W →
      Calls Tryz.prog 63 #[.pointer (some ⟨C, 0, none⟩), .int .i64 rd, .int .u32 v] W fun e w' => e = .returned (.tuple #[]) ∧ CpuIn w' C L (setR c rd v) ∧ Tcs (fun g => g ∈ L) w w' ∧ (w'.cell? ⟨w.heap.size, 0, none⟩ = some (.int .i64 18) ∧ w'.cell? ⟨w.heap.size, 1, none⟩ = some (.int .i64 rd))) := by
    intro W v hW
    refine (setReg_any C L c rd v W hG.r32 (by omega) (h0.below hW)).mono ?_
    rintro e w' ⟨rfl, hc, ht⟩
    have t1 := (Below.tcs (S := fun g => g ∈ L) hW).trans ht
    exact ⟨rfl, hc, T0.trans t1, X0 t1⟩
  have X00 := X0 (Tcs.refl _ _)
  have HI : Hid _ := hA
  clear hA
  clear hb hr hR hd hs hi ho hk hL hnd hbk h h0 T0 X0
  generalize hx1 : c.regs.getD s1 0 = a at *
  generalize hx2 : c.regs.getD s2 0 = b at *
  go_enter Tryz.func52, Tryz.ntmps52
  go_wp2_with fail
  go_quiet (fail)
  go_wp2_with fail
  go_region_held3 (fun W => W.cell? ⟨w.heap.size, 0, none⟩ = some (.int .i64 18) ∧ W.cell? ⟨w.heap.size, 1, none⟩ = some (.int .i64 rd)) (first | exact X00 | assumption | (go_simp; done))
    (first
    | (go_at_call 69; refine (HI.out.2.1 _).mono ?_; rintro e w1 ⟨rfl, rfl⟩)
    | (go_at_call 63; refine (HS.out _ _ ?_).mono ?_; (first | exact below_drewN (Below.refl _ _) _ | exact (below_drewN (Below.refl _ _) _).drew | exact (Below.refl _ _).drew | exact Below.refl _ _); rintro e w2 ⟨rfl, hc2, ht2, x2⟩))
  obtain ⟨rv, d2, s2', i2, o2, hb2, _, _, _, _, _, _, _⟩ := id hc2
  have q1 := hb2.c1
  have q7 := hb2.c7
  have qf := hb2.fz 1
  rw [setR_pc] at q1
  rw [setR_st, hst] at q7
  have HE : Hid _ := And.intro hc2 ht2
  clear hb2 hc2 ht2 x2
  go_wp2
  go_ret
  exact ⟨rfl, HE.out.1.pc _, HE.out.2.setCell HE.out.1.mem _⟩


set_option maxRecDepth 8000 in
set_option maxHeartbeats 1000000 in
theorem exI19 (C : Nat) (L : List Nat) (c : Mc)  (rd s1 s2 : Nat) (im : Int) (w : World) (hG : Good c) (h : CpuIn w C L c) (r : Int) (hrd : rd < 32) (h1 : s1 < 32) (h2 : s2 < 32)
    (hst : c.st = 0) (hA : AluIs 19 (c.regs.getD s1 0) (im % 4294967296) r) :
    Calls Tryz.prog 52 #[.pointer (some ⟨C, 0, none⟩), .agg #[.int .i64 19, .int .i64 rd, .int .i64 s1, .int .i64 s2, .int .i64 im]] w fun e w' =>
      e = .returned (.bool true) ∧ CpuIn w' C L { setR c rd r with pc := (c.pc + 4) % 4294967296 } ∧ Tcs (fun g => g ∈ L) w w' := by
  have T0 := (Tcs.refl (fun g => g ∈ L) w).alloc (.cells #[.int .i64 19, .int .i64 rd, .int .i64 s1, .int .i64 s2, .int .i64 im] 52)
  have h0 := h.below ((Below.refl w.heap.size w).alloc (Nat.le_refl _) (.cells #[.int .i64 19, .int .i64 rd, .int .i64 s1, .int .i64 s2, .int .i64 im] 52))
  obtain ⟨rv, d, s, i, o, hb, hr, hd, hs, hi, ho, hk, hL, hnd⟩ := id h0
  obtain ⟨g, off, cap, rfl, hR, hbk⟩ := lis_some hr (by have := hG.r32; omega)
  have e32 := hG.r32
  have c0 := hb.c0
  rw [e32] at c0
  have c1 := hb.c1
  have cs1 := hR.cell s1 (by omega)
  have cs2 := hR.cell s2 (by omega)
  have X0 : ∀ {W : World}, Tcs (fun g => g ∈ L) (w.alloc (.cells #[.int .i64 19, .int .i64 rd, .int .i64 s1, .int .i64 s2, .int .i64 im] 52)) W → W.cell? ⟨w.heap.size, 0, none⟩ = some (.int .i64 19) ∧ W.cell? ⟨w.heap.size, 1, none⟩ = some (.int .i64 rd) := by
    intro W hW
    have hkb := hW.block w.heap.size (by simp) (fun hm => by have := h.lt _ hm; omega)
    constructor <;> (rw [World.cell?_of_block (w := w.alloc _) hkb]; simp)
  have HS : Hid (∀ W v, Below (w.alloc (.cells #[.int .i64 19, .int .i64 rd, .int .i64 s1, .int .i64 s2, .int .i64 im] 52)).heap.size (w.alloc (.cells #[.int .i64 19, .int .i64 rd, .int .i64 s1, .int .i64 s2, .int .i64 im] 52)) W →
      Calls Tryz.prog 63 #[.pointer (some ⟨C, 0, none⟩), .int .i64 rd, .int .u32 v] W fun e w' => e = .returned (.tuple #[]) ∧ CpuIn w' C L (setR c rd v) ∧ Tcs (fun g => g ∈ L) w w' ∧ (w'.cell? ⟨w.heap.size, 0, none⟩ = some (.int .i64 19) ∧ w'.cell? ⟨w.heap.size, 1, none⟩ = some (.int .i64 rd))) := by
    intro W v hW
    refine (setReg_any C L c rd v W hG.r32 (by omega) (h0.below hW)).mono ?_
    rintro e w' ⟨rfl, hc, ht⟩
    have t1 := (Below.tcs (S := fun g => g ∈ L) hW).trans ht
    exact ⟨rfl, hc, T0.trans t1, X0 t1⟩
  have X00 := X0 (Tcs.refl _ _)
  have HI : Hid _ := hA
  clear hA
  clear hb hr hR hd hs hi ho hk hL hnd hbk h h0 T0 X0
  generalize hx1 : c.regs.getD s1 0 = a at *
  generalize hx2 : c.regs.getD s2 0 = b at *
  go_enter Tryz.func52, Tryz.ntmps52
  go_wp2_with fail
  go_quiet (fail)
  go_wp2_with fail
  go_region_held3 (fun W => W.cell? ⟨w.heap.size, 0, none⟩ = some (.int .i64 19) ∧ W.cell? ⟨w.heap.size, 1, none⟩ = some (.int .i64 rd)) (first | exact X00 | assumption | (go_simp; done))
    (first
    | (go_at_call 69; refine (HI.out.2.1 _).mono ?_; rintro e w1 ⟨rfl, rfl⟩)
    | (go_at_call 63; refine (HS.out _ _ ?_).mono ?_; (first | exact below_drewN (Below.refl _ _) _ | exact (below_drewN (Below.refl _ _) _).drew | exact (Below.refl _ _).drew | exact Below.refl _ _); rintro e w2 ⟨rfl, hc2, ht2, x2⟩))
  obtain ⟨rv, d2, s2', i2, o2, hb2, _, _, _, _, _, _, _⟩ := id hc2
  have q1 := hb2.c1
  have q7 := hb2.c7
  have qf := hb2.fz 1
  rw [setR_pc] at q1
  rw [setR_st, hst] at q7
  have HE : Hid _ := And.intro hc2 ht2
  clear hb2 hc2 ht2 x2
  go_wp2
  go_ret
  exact ⟨rfl, HE.out.1.pc _, HE.out.2.setCell HE.out.1.mem _⟩


set_option maxRecDepth 8000 in
set_option maxHeartbeats 1000000 in
theorem exI20 (C : Nat) (L : List Nat) (c : Mc)  (rd s1 s2 : Nat) (im : Int) (w : World) (hG : Good c) (h : CpuIn w C L c) (r : Int) (hrd : rd < 32) (h1 : s1 < 32) (h2 : s2 < 32)
    (hst : c.st = 0) (hA : AluIs 20 (c.regs.getD s1 0) (im % 4294967296) r) :
    Calls Tryz.prog 52 #[.pointer (some ⟨C, 0, none⟩), .agg #[.int .i64 20, .int .i64 rd, .int .i64 s1, .int .i64 s2, .int .i64 im]] w fun e w' =>
      e = .returned (.bool true) ∧ CpuIn w' C L { setR c rd r with pc := (c.pc + 4) % 4294967296 } ∧ Tcs (fun g => g ∈ L) w w' := by
  have T0 := (Tcs.refl (fun g => g ∈ L) w).alloc (.cells #[.int .i64 20, .int .i64 rd, .int .i64 s1, .int .i64 s2, .int .i64 im] 52)
  have h0 := h.below ((Below.refl w.heap.size w).alloc (Nat.le_refl _) (.cells #[.int .i64 20, .int .i64 rd, .int .i64 s1, .int .i64 s2, .int .i64 im] 52))
  obtain ⟨rv, d, s, i, o, hb, hr, hd, hs, hi, ho, hk, hL, hnd⟩ := id h0
  obtain ⟨g, off, cap, rfl, hR, hbk⟩ := lis_some hr (by have := hG.r32; omega)
  have e32 := hG.r32
  have c0 := hb.c0
  rw [e32] at c0
  have c1 := hb.c1
  have cs1 := hR.cell s1 (by omega)
  have cs2 := hR.cell s2 (by omega)
  have X0 : ∀ {W : World}, Tcs (fun g => g ∈ L) (w.alloc (.cells #[.int .i64 20, .int .i64 rd, .int .i64 s1, .int .i64 s2, .int .i64 im] 52)) W → W.cell? ⟨w.heap.size, 0, none⟩ = some (.int .i64 20) ∧ W.cell? ⟨w.heap.size, 1, none⟩ = some (.int .i64 rd) := by
    intro W hW
    have hkb := hW.block w.heap.size (by simp) (fun hm => by have := h.lt _ hm; omega)
    constructor <;> (rw [World.cell?_of_block (w := w.alloc _) hkb]; simp)
  have HS : Hid (∀ W v, Below (w.alloc (.cells #[.int .i64 20, .int .i64 rd, .int .i64 s1, .int .i64 s2, .int .i64 im] 52)).heap.size (w.alloc (.cells #[.int .i64 20, .int .i64 rd, .int .i64 s1, .int .i64 s2, .int .i64 im] 52)) W →
      Calls Tryz.prog 63 #[.pointer (some ⟨C, 0, none⟩), .int .i64 rd, .int .u32 v] W fun e w' => e = .returned (.tuple #[]) ∧ CpuIn w' C L (setR c rd v) ∧ Tcs (fun g => g ∈ L) w w' ∧ (w'.cell? ⟨w.heap.size, 0, none⟩ = some (.int .i64 20) ∧ w'.cell? ⟨w.heap.size, 1, none⟩ = some (.int .i64 rd))) := by
    intro W v hW
    refine (setReg_any C L c rd v W hG.r32 (by omega) (h0.below hW)).mono ?_
    rintro e w' ⟨rfl, hc, ht⟩
    have t1 := (Below.tcs (S := fun g => g ∈ L) hW).trans ht
    exact ⟨rfl, hc, T0.trans t1, X0 t1⟩
  have X00 := X0 (Tcs.refl _ _)
  have HI : Hid _ := hA
  clear hA
  clear hb hr hR hd hs hi ho hk hL hnd hbk h h0 T0 X0
  generalize hx1 : c.regs.getD s1 0 = a at *
  generalize hx2 : c.regs.getD s2 0 = b at *
  go_enter Tryz.func52, Tryz.ntmps52
  go_wp2_with fail
  go_quiet (fail)
  go_wp2_with fail
  go_region_held3 (fun W => W.cell? ⟨w.heap.size, 0, none⟩ = some (.int .i64 20) ∧ W.cell? ⟨w.heap.size, 1, none⟩ = some (.int .i64 rd)) (first | exact X00 | assumption | (go_simp; done))
    (first
    | (go_at_call 69; refine (HI.out.2.1 _).mono ?_; rintro e w1 ⟨rfl, rfl⟩)
    | (go_at_call 63; refine (HS.out _ _ ?_).mono ?_; (first | exact below_drewN (Below.refl _ _) _ | exact (below_drewN (Below.refl _ _) _).drew | exact (Below.refl _ _).drew | exact Below.refl _ _); rintro e w2 ⟨rfl, hc2, ht2, x2⟩))
  obtain ⟨rv, d2, s2', i2, o2, hb2, _, _, _, _, _, _, _⟩ := id hc2
  have q1 := hb2.c1
  have q7 := hb2.c7
  have qf := hb2.fz 1
  rw [setR_pc] at q1
  rw [setR_st, hst] at q7
  have HE : Hid _ := And.intro hc2 ht2
  clear hb2 hc2 ht2 x2
  go_wp2
  go_ret
  exact ⟨rfl, HE.out.1.pc _, HE.out.2.setCell HE.out.1.mem _⟩

end Go.Proofs.YtabjcodpagjbjaaGreat
