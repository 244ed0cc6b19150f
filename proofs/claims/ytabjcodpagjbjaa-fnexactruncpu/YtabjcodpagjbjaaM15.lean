import Derived.Test.YtabjcodpagjbjaaM14
namespace Go.Proofs.Ytabjcodpagjbjaa
open Go.RowKit
set_option linter.unusedVariables false
set_option linter.unusedSimpArgs false

set_option maxRecDepth 8000 in
set_option maxHeartbeats 1000000 in
theorem exSwD (C : Nat) (L : List Nat) (c : Mc)  (rd s1 s2 : Nat) (im : Int) (w : World) (hG : Good c) (h : CpuIn w C L c) (m : Nat) (hrd : rd < 32) (h1 : s1 < 32) (h2 : s2 < 32)
    (hst : c.st = 0) (hm : inD c ((c.regs.getD s1 0 + im) % 4294967296) m) :
    Calls Try.prog 58 #[.pointer (some ⟨C, 0, none⟩), .agg #[.int .i64 11, .int .i64 rd, .int .i64 s1, .int .i64 s2, .int .i64 im]] w fun e w' =>
      e = .returned (.bool true) ∧ CpuIn w' C L { c with data := put4 c.data m (c.regs.getD s2 0), pc := (c.pc + 4) % 4294967296 } ∧ Tcs (fun g => g ∈ L) w w' := by
  have T0 := (Tcs.refl (fun g => g ∈ L) w).alloc (.cells #[.int .i64 11, .int .i64 rd, .int .i64 s1, .int .i64 s2, .int .i64 im] 64)
  have h0 := h.below ((Below.refl w.heap.size w).alloc (Nat.le_refl _) (.cells #[.int .i64 11, .int .i64 rd, .int .i64 s1, .int .i64 s2, .int .i64 im] 64))
  obtain ⟨rv, d, s, i, o, hb, hr, hd, hs, hi, ho, hk, hL, hnd⟩ := id h0
  obtain ⟨g, off, cap, rfl, hR, hbk⟩ := lis_some hr (by have := hG.r32; omega)
  have e32 := hG.r32
  have c0 := hb.c0
  rw [e32] at c0
  have c1 := hb.c1
  have cs1 := hR.cell s1 (by omega)
  have cs2 := hR.cell s2 (by omega)
  have X0 : ∀ {W : World}, Tcs (fun g => g ∈ L) (w.alloc (.cells #[.int .i64 11, .int .i64 rd, .int .i64 s1, .int .i64 s2, .int .i64 im] 64)) W → W.cell? ⟨w.heap.size, 0, none⟩ = some (.int .i64 11) ∧ W.cell? ⟨w.heap.size, 1, none⟩ = some (.int .i64 rd) := by
    intro W hW
    have hkb := hW.block w.heap.size (by simp) (fun hm => by have := h.lt _ hm; omega)
    constructor <;> (rw [World.cell?_of_block (w := w.alloc _) hkb]; simp)
  have HS : Hid (∀ W v, Below (w.alloc (.cells #[.int .i64 11, .int .i64 rd, .int .i64 s1, .int .i64 s2, .int .i64 im] 64)).heap.size (w.alloc (.cells #[.int .i64 11, .int .i64 rd, .int .i64 s1, .int .i64 s2, .int .i64 im] 64)) W →
      Calls Try.prog 71 #[.pointer (some ⟨C, 0, none⟩), .int .i64 rd, .int .u32 v] W fun e w' => e = .returned (.tuple #[]) ∧ CpuIn w' C L (setR c rd v) ∧ Tcs (fun g => g ∈ L) w w' ∧ (w'.cell? ⟨w.heap.size, 0, none⟩ = some (.int .i64 11) ∧ w'.cell? ⟨w.heap.size, 1, none⟩ = some (.int .i64 rd))) := by
    intro W v hW
    refine (setReg_any C L c rd v W hG.r32 (by omega) (h0.below hW)).mono ?_
    rintro e w' ⟨rfl, hc, ht⟩
    have t1 := (Below.tcs (S := fun g => g ∈ L) hW).trans ht
    exact ⟨rfl, hc, T0.trans t1, X0 t1⟩
  have X00 := X0 (Tcs.refl _ _)
  have hS2 := hG.ru s2 (by omega)
  have HX : ∃ gm om cm, (∀ W, Below (w.alloc (.cells #[.int .i64 11, .int .i64 rd, .int .i64 s1, .int .i64 s2, .int .i64 im] 64)).heap.size (w.alloc (.cells #[.int .i64 11, .int .i64 rd, .int .i64 s1, .int .i64 s2, .int .i64 im] 64)) W → Calls Try.prog 73 #[.pointer (some ⟨C, 0, none⟩), .int .u32 ((c.regs.getD s1 0 + im) % 4294967296)] W fun e w' => e = .returned (.slice (some ⟨gm, om + m, none⟩) 4 cm) ∧ ∃ n, w' = W.drewN n) ∧
      (∀ W, Below (w.alloc (.cells #[.int .i64 11, .int .i64 rd, .int .i64 s1, .int .i64 s2, .int .i64 im] 64)).heap.size (w.alloc (.cells #[.int .i64 11, .int .i64 rd, .int .i64 s1, .int .i64 s2, .int .i64 im] 64)) W → Calls Try.prog 75 #[.slice (some ⟨gm, om + m, none⟩) 4 cm, .int .u32 (c.regs.getD s2 0)] W fun e w' => e = .returned (.tuple #[]) ∧ CpuIn w' C L { c with data := put4 c.data m (c.regs.getD s2 0) } ∧ Tcs (fun g => g ∈ L) w w') := by
    obtain ⟨gm, om, cm, hmem, hrow, _, rv1, s1v, i1v, o1v, k1v, hbx⟩ := memD hG h0 _ m hm
    refine ⟨gm, om, cm, hmem, fun W hW => ?_⟩
    have hl := hm.2.2
    obtain ⟨rv', d', s', i', o', hb', hr', hd', hs', hi', ho', hk', hL', hnd'⟩ := h0.below hW
    have rk := hrow.keep hW.size (hW.block gm hrow.lt)
    refine (write_any gm (om + m) cm _ _ _ _ _ W hS2 (rk.cell m (by omega)) (rk.cell (m + 1) (by omega)) (rk.cell (m + 2) (by omega)) (rk.cell (m + 3) (by omega)) rk.froz).mono ?_
    rintro e w' ⟨rfl, rfl⟩
    obtain rfl : d' = _ := Option.some.inj (hb'.c2.symm.trans (hbx.below hW).c2)
    have T := ((((Tcs.refl (fun k => k = gm) W).setCell (p := ⟨gm, om + m, none⟩) rfl (.int .u8 (c.regs.getD s2 0 % 256))).setCell (p := ⟨gm, om + m + 1, none⟩) rfl (.int .u8 (c.regs.getD s2 0 / 256 % 256))).setCell (p := ⟨gm, om + m + 2, none⟩) rfl (.int .u8 (c.regs.getD s2 0 / 65536 % 256))).setCell (p := ⟨gm, om + m + 3, none⟩) rfl (.int .u8 (c.regs.getD s2 0 / 16777216))
    refine ⟨rfl, CpuIn.dat hb' hr' hs' hi' ho' hk' hL' hnd' (by omega) T (put4_len _ _ _) (rk.put4 hl), (T0.trans (Below.tcs hW)).trans (T.mono fun k hk => ?_)⟩
    subst hk
    rw [hL', blk_some _ _ _ (by omega)]
    simp
  obtain ⟨gm, om, cm, hmem, hwr⟩ := HX
  have HM : Hid _ := hmem
  have HW : Hid _ := hwr
  have hnil := eql_nil (some ⟨gm, om + m, none⟩) 4 cm
  simp only [Option.isNone_some] at hnil
  clear hmem hwr hm hS2
  clear hb hr hR hd hs hi ho hk hL hnd hbk h h0 T0 X0
  generalize hx1 : c.regs.getD s1 0 = a at *
  generalize hx2 : c.regs.getD s2 0 = b at *
  go_enter Try.func58, Try.ntmps58
  go_wp2_with fail
  go_quiet (fail)
  go_wp2_with fail
  refine (HM.out _ ?_).mono ?_
  · exact below_drewN (Below.refl _ _) _
  rintro e w1 ⟨rfl, n1, rfl⟩
  go_wp2_with fail
  refine (HW.out _ ?_).mono ?_
  · first | exact below_drewN (Below.refl _ _) _ | exact below_drewN (below_drewN (Below.refl _ _) _) _
  rintro e w2 ⟨rfl, hc2, ht2⟩
  obtain ⟨rv, d2, s2', i2, o2, hb2, _, _, _, _, _, _, _⟩ := id hc2
  have q1 := hb2.c1
  have q7 := hb2.c7
  have qf := hb2.fz 1
  dsimp only at q1 q7
  rw [hst] at q7
  have HE : Hid _ := And.intro hc2 ht2
  clear hb2 hc2 ht2
  go_wp2
  go_ret
  exact ⟨rfl, HE.out.1.pc _, HE.out.2.setCell HE.out.1.mem _⟩


set_option maxRecDepth 8000 in
set_option maxHeartbeats 1000000 in
theorem exSwS (C : Nat) (L : List Nat) (c : Mc)  (rd s1 s2 : Nat) (im : Int) (w : World) (hG : Good c) (h : CpuIn w C L c) (m : Nat) (hrd : rd < 32) (h1 : s1 < 32) (h2 : s2 < 32)
    (hst : c.st = 0) (hm : inS c ((c.regs.getD s1 0 + im) % 4294967296) m) :
    Calls Try.prog 58 #[.pointer (some ⟨C, 0, none⟩), .agg #[.int .i64 11, .int .i64 rd, .int .i64 s1, .int .i64 s2, .int .i64 im]] w fun e w' =>
      e = .returned (.bool true) ∧ CpuIn w' C L { c with stack := put4 c.stack m (c.regs.getD s2 0), pc := (c.pc + 4) % 4294967296 } ∧ Tcs (fun g => g ∈ L) w w' := by
  have T0 := (Tcs.refl (fun g => g ∈ L) w).alloc (.cells #[.int .i64 11, .int .i64 rd, .int .i64 s1, .int .i64 s2, .int .i64 im] 64)
  have h0 := h.below ((Below.refl w.heap.size w).alloc (Nat.le_refl _) (.cells #[.int .i64 11, .int .i64 rd, .int .i64 s1, .int .i64 s2, .int .i64 im] 64))
  obtain ⟨rv, d, s, i, o, hb, hr, hd, hs, hi, ho, hk, hL, hnd⟩ := id h0
  obtain ⟨g, off, cap, rfl, hR, hbk⟩ := lis_some hr (by have := hG.r32; omega)
  have e32 := hG.r32
  have c0 := hb.c0
  rw [e32] at c0
  have c1 := hb.c1
  have cs1 := hR.cell s1 (by omega)
  have cs2 := hR.cell s2 (by omega)
  have X0 : ∀ {W : World}, Tcs (fun g => g ∈ L) (w.alloc (.cells #[.int .i64 11, .int .i64 rd, .int .i64 s1, .int .i64 s2, .int .i64 im] 64)) W → W.cell? ⟨w.heap.size, 0, none⟩ = some (.int .i64 11) ∧ W.cell? ⟨w.heap.size, 1, none⟩ = some (.int .i64 rd) := by
    intro W hW
    have hkb := hW.block w.heap.size (by simp) (fun hm => by have := h.lt _ hm; omega)
    constructor <;> (rw [World.cell?_of_block (w := w.alloc _) hkb]; simp)
  have HS : Hid (∀ W v, Below (w.alloc (.cells #[.int .i64 11, .int .i64 rd, .int .i64 s1, .int .i64 s2, .int .i64 im] 64)).heap.size (w.alloc (.cells #[.int .i64 11, .int .i64 rd, .int .i64 s1, .int .i64 s2, .int .i64 im] 64)) W →
      Calls Try.prog 71 #[.pointer (some ⟨C, 0, none⟩), .int .i64 rd, .int .u32 v] W fun e w' => e = .returned (.tuple #[]) ∧ CpuIn w' C L (setR c rd v) ∧ Tcs (fun g => g ∈ L) w w' ∧ (w'.cell? ⟨w.heap.size, 0, none⟩ = some (.int .i64 11) ∧ w'.cell? ⟨w.heap.size, 1, none⟩ = some (.int .i64 rd))) := by
    intro W v hW
    refine (setReg_any C L c rd v W hG.r32 (by omega) (h0.below hW)).mono ?_
    rintro e w' ⟨rfl, hc, ht⟩
    have t1 := (Below.tcs (S := fun g => g ∈ L) hW).trans ht
    exact ⟨rfl, hc, T0.trans t1, X0 t1⟩
  have X00 := X0 (Tcs.refl _ _)
  have hS2 := hG.ru s2 (by omega)
  have HX : ∃ gm om cm, (∀ W, Below (w.alloc (.cells #[.int .i64 11, .int .i64 rd, .int .i64 s1, .int .i64 s2, .int .i64 im] 64)).heap.size (w.alloc (.cells #[.int .i64 11, .int .i64 rd, .int .i64 s1, .int .i64 s2, .int .i64 im] 64)) W → Calls Try.prog 73 #[.pointer (some ⟨C, 0, none⟩), .int .u32 ((c.regs.getD s1 0 + im) % 4294967296)] W fun e w' => e = .returned (.slice (some ⟨gm, om + m, none⟩) 4 cm) ∧ ∃ n, w' = W.drewN n) ∧
      (∀ W, Below (w.alloc (.cells #[.int .i64 11, .int .i64 rd, .int .i64 s1, .int .i64 s2, .int .i64 im] 64)).heap.size (w.alloc (.cells #[.int .i64 11, .int .i64 rd, .int .i64 s1, .int .i64 s2, .int .i64 im] 64)) W → Calls Try.prog 75 #[.slice (some ⟨gm, om + m, none⟩) 4 cm, .int .u32 (c.regs.getD s2 0)] W fun e w' => e = .returned (.tuple #[]) ∧ CpuIn w' C L { c with stack := put4 c.stack m (c.regs.getD s2 0) } ∧ Tcs (fun g => g ∈ L) w w') := by
    obtain ⟨gm, om, cm, hmem, hrow, rv1, d1v, i1v, o1v, k1v, hbx⟩ := memS hG h0 _ m hm
    refine ⟨gm, om, cm, hmem, fun W hW => ?_⟩
    have hl := hm.2.2
    obtain ⟨rv', d', s', i', o', hb', hr', hd', hs', hi', ho', hk', hL', hnd'⟩ := h0.below hW
    have rk := hrow.keep hW.size (hW.block gm hrow.lt)
    refine (write_any gm (om + m) cm _ _ _ _ _ W hS2 (rk.cell m (by omega)) (rk.cell (m + 1) (by omega)) (rk.cell (m + 2) (by omega)) (rk.cell (m + 3) (by omega)) rk.froz).mono ?_
    rintro e w' ⟨rfl, rfl⟩
    obtain rfl : s' = _ := Option.some.inj (hb'.c3.symm.trans (hbx.below hW).c3)
    have T := ((((Tcs.refl (fun k => k = gm) W).setCell (p := ⟨gm, om + m, none⟩) rfl (.int .u8 (c.regs.getD s2 0 % 256))).setCell (p := ⟨gm, om + m + 1, none⟩) rfl (.int .u8 (c.regs.getD s2 0 / 256 % 256))).setCell (p := ⟨gm, om + m + 2, none⟩) rfl (.int .u8 (c.regs.getD s2 0 / 65536 % 256))).setCell (p := ⟨gm, om + m + 3, none⟩) rfl (.int .u8 (c.regs.getD s2 0 / 16777216))
    refine ⟨rfl, CpuIn.stk hb' hr' hd' hi' ho' hk' hL' hnd' (by omega) T (put4_len _ _ _) (rk.put4 hl), (T0.trans (Below.tcs hW)).trans (T.mono fun k hk => ?_)⟩
    subst hk
    rw [hL', blk_some _ _ _ (by omega)]
    simp
  obtain ⟨gm, om, cm, hmem, hwr⟩ := HX
  have HM : Hid _ := hmem
  have HW : Hid _ := hwr
  have hnil := eql_nil (some ⟨gm, om + m, none⟩) 4 cm
  simp only [Option.isNone_some] at hnil
  clear hmem hwr hm hS2
  clear hb hr hR hd hs hi ho hk hL hnd hbk h h0 T0 X0
  generalize hx1 : c.regs.getD s1 0 = a at *
  generalize hx2 : c.regs.getD s2 0 = b at *
  go_enter Try.func58, Try.ntmps58
  go_wp2_with fail
  go_quiet (fail)
  go_wp2_with fail
  refine (HM.out _ ?_).mono ?_
  · exact below_drewN (Below.refl _ _) _
  rintro e w1 ⟨rfl, n1, rfl⟩
  go_wp2_with fail
  refine (HW.out _ ?_).mono ?_
  · first | exact below_drewN (Below.refl _ _) _ | exact below_drewN (below_drewN (Below.refl _ _) _) _
  rintro e w2 ⟨rfl, hc2, ht2⟩
  obtain ⟨rv, d2, s2', i2, o2, hb2, _, _, _, _, _, _, _⟩ := id hc2
  have q1 := hb2.c1
  have q7 := hb2.c7
  have qf := hb2.fz 1
  dsimp only at q1 q7
  rw [hst] at q7
  have HE : Hid _ := And.intro hc2 ht2
  clear hb2 hc2 ht2
  go_wp2
  go_ret
  exact ⟨rfl, HE.out.1.pc _, HE.out.2.setCell HE.out.1.mem _⟩

end Go.Proofs.Ytabjcodpagjbjaa
