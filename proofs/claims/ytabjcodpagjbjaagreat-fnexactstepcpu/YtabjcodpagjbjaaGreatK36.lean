import Derived.Test.YtabjcodpagjbjaaGreatK06
namespace Go.Proofs.YtabjcodpagjbjaaGreat
open Go.RowKit
set_option linter.unusedVariables false
set_option linter.unusedSimpArgs false

set_option maxRecDepth 8000 in
set_option maxHeartbeats 1000000 in
theorem doU1 (ma : Option Addr) (mn mc' : Nat) (md mb : Int) (v : Value) (L : List Nat) (c : Mc)  (rd s1 s2 : Nat) (im : Int) (w : World) (hG : Good c) (h : CpuV w v L c)  (h0 : 0 < rd) (hrd : rd < 32) (h1 : s1 < 32) (h2 : s2 < 32)
     :
    Calls Tryz.prog 44 #[.agg #[.slice ma mn mc', .int .i64 md, .int .i64 mb], v, .agg #[.int .i64 1, .int .i64 rd, .int .i64 s1, .int .i64 s2, .int .i64 im]] w fun e w' =>
      ∃ u, e = .returned u ∧ CpuV w' u L { setR c rd (im % 4294967296 * 4096 % 4294967296) with pc := (c.pc + 4) % 4294967296 } ∧ Tcs (fun g => g ∈ L) w w' := by
  obtain ⟨g, off, y1, n2, n3, n4, n5, x2, y2, x3, y3, x4, y4, x5, y5, rfl, hbk⟩ := h.shape32 hG.r32
  have A4 : Below w.heap.size w ((((w.alloc (.cells #[.slice ma mn mc', .int .i64 md, .int .i64 mb] 34)).alloc (.cells #[.slice (some ⟨g, off, none⟩) 32 y1, .int .u32 c.pc, .slice x2 n2 y2, .slice x3 n3 y3, .slice x4 n4 y4, .slice x5 n5 y5, .int .u32 c.low, .int .i64 c.st] 32)).alloc (.cells #[.int .i64 1, .int .i64 rd, .int .i64 s1, .int .i64 s2, .int .i64 im] 52)).alloc (.cells #[.slice none 0 0, .int .u32 0, .slice none 0 0, .slice none 0 0, .slice none 0 0, .slice none 0 0, .int .u32 0, .int .i64 0] 32)) := ((((Below.refl _ _).alloc (Nat.le_refl _) _).alloc (by simp) _).alloc (by simp; omega) _).alloc (by simp; omega) _
  have hCb : ((((w.alloc (.cells #[.slice ma mn mc', .int .i64 md, .int .i64 mb] 34)).alloc (.cells #[.slice (some ⟨g, off, none⟩) 32 y1, .int .u32 c.pc, .slice x2 n2 y2, .slice x3 n3 y3, .slice x4 n4 y4, .slice x5 n5 y5, .int .u32 c.low, .int .i64 c.st] 32)).alloc (.cells #[.int .i64 1, .int .i64 rd, .int .i64 s1, .int .i64 s2, .int .i64 im] 52)).alloc (.cells #[.slice none 0 0, .int .u32 0, .slice none 0 0, .slice none 0 0, .slice none 0 0, .slice none 0 0, .int .u32 0, .int .i64 0] 32)).heap[w.heap.size + 1]? = some (.cells #[.slice (some ⟨g, off, none⟩) 32 y1, .int .u32 c.pc, .slice x2 n2 y2, .slice x3 n3 y3, .slice x4 n4 y4, .slice x5 n5 y5, .int .u32 c.low, .int .i64 c.st] 32) := by
    rw [Below.heap_alloc _ _ _ (by simp), Below.heap_alloc _ _ _ (by simp)]
    have := heap_alloc_new (w.alloc (.cells #[.slice ma mn mc', .int .i64 md, .int .i64 mb] 34)) (.cells #[.slice (some ⟨g, off, none⟩) 32 y1, .int .u32 c.pc, .slice x2 n2 y2, .slice x3 n3 y3, .slice x4 n4 y4, .slice x5 n5 y5, .int .u32 c.low, .int .i64 c.st] 32)
    simpa only [World.size_alloc] using this
  have hI := h.boxed A4 hCb (by omega)
  obtain ⟨rv, d, s, i, o, hb, hr, hd, hs, hi, ho, hk, hL, hnd⟩ := id hI
  obtain rfl := Option.some.inj (hb.c0.symm.trans (Bx.of_heap hCb).c0)
  have hR := row_of hr hG.r32
  have cs1 := hR.cell s1 (by have := hG.r32; omega)
  have cs2 := hR.cell s2 (by have := hG.r32; omega)
  have hgw : g < w.heap.size := h.lt g hbk
  have e1 : ¬ g = w.heap.size := by omega
  have e2 : ¬ g = w.heap.size + 1 := by omega
  have e3 : ¬ g = w.heap.size + 1 + 1 := by omega
  have e4 : ¬ g = w.heap.size + 1 + 1 + 1 := by omega
  have cR := hR.cell rd (by have := hG.r32; omega)
  have fR := hR.froz (off + rd)
  have h0' : (0 : Int) < (rd : Int) := by omega
  have HX : Hid _ := And.intro h (And.intro A4 (And.intro hI (Bx.of_heap hCb)))
  clear hb hr hR hd hs hi ho hk hL hnd h A4 hCb hI hbk
  generalize hx1 : c.regs.getD s1 0 = a at *
  generalize hx2 : c.regs.getD s2 0 = b at *
  go_enter Tryz.func44, Tryz.ntmps44
  go_wp2_with (go_at_call 59; refine (shapeU 1 _ rfl).mono ?_; rintro e w1 ⟨rfl, rfl⟩)
  refine bodyPost_ret (v := .agg #[.slice (some ⟨g, off, none⟩) 32 y1, .int .u32 ((c.pc + 4) % 4294967296), .slice x2 n2 y2, .slice x3 n3 y3, .slice x4 n4 y4, .slice x5 n5 y5, .int .u32 c.low, .int .i64 c.st])
    (by simp [results, Tryz.results44, go_sem]) rfl ?_
  obtain ⟨hv, A4, hI, hb⟩ := HX.out
  have hl := hv.lt
  obtain ⟨k0, hgL⟩ := hI.set (v := im % 4294967296 * 4096 % 4294967296) hb hG.r32 hrd h0
  have b0 := hb.other (p := ⟨g, off + rd, none⟩) (fun e => e2 e.symm) (.int .u32 (im % 4294967296 * 4096 % 4294967296))
  have k1 := k0.pc ((c.pc + 4) % 4294967296)
  have b1 := b0.s1 (.int .u32 ((c.pc + 4) % 4294967296))
  have hgL' : g ∈ L := by
    rw [List.mem_cons] at hgL
    exact hgL.resolve_left e2
  have hv2 := CpuIn.giveBack (w := w) (R := w.heap.size + 1 + 1 + 1) k1 b1 ((Tcs.refl (fun k => k = w.heap.size + 1 + 1 + 1) _).set8 _ rfl (.slice (some ⟨g, off, none⟩) 32 y1) (.int .u32 ((c.pc + 4) % 4294967296)) (.slice x2 n2 y2) (.slice x3 n3 y3) (.slice x4 n4 y4) (.slice x5 n5 y5) (.int .u32 c.low) (.int .i64 c.st)) (by omega) hl
  refine ⟨_, rfl, ?_, ?_⟩
  · dsimp only at hv2 ⊢
    rw [setR_low, setR_st] at hv2 ⊢
    exact hv2
  · exact ((((Below.tcs (S := fun x => x ∈ L) A4)).setCell (p := ⟨g, off + rd, none⟩) hgL' _).setNew (p := ⟨w.heap.size + 1, 1, none⟩) (by dsimp only; omega) _).new8 _ (by omega) _ _ _ _ _ _ _ _


set_option maxRecDepth 8000 in
set_option maxHeartbeats 1000000 in
theorem doJ1 (ma : Option Addr) (mn mc' : Nat) (md mb : Int) (v : Value) (L : List Nat) (c : Mc)  (rd s1 s2 : Nat) (im : Int) (w : World) (hG : Good c) (h : CpuV w v L c)  (h0 : 0 < rd) (hrd : rd < 32) (h1 : s1 < 32) (h2 : s2 < 32)
     :
    Calls Tryz.prog 44 #[.agg #[.slice ma mn mc', .int .i64 md, .int .i64 mb], v, .agg #[.int .i64 2, .int .i64 rd, .int .i64 s1, .int .i64 s2, .int .i64 im]] w fun e w' =>
      ∃ u, e = .returned u ∧ CpuV w' u L { setR c rd ((c.pc + 4) % 4294967296) with pc := (c.pc + im) % 4294967296 } ∧ Tcs (fun g => g ∈ L) w w' := by
  obtain ⟨g, off, y1, n2, n3, n4, n5, x2, y2, x3, y3, x4, y4, x5, y5, rfl, hbk⟩ := h.shape32 hG.r32
  have A4 : Below w.heap.size w ((((w.alloc (.cells #[.slice ma mn mc', .int .i64 md, .int .i64 mb] 34)).alloc (.cells #[.slice (some ⟨g, off, none⟩) 32 y1, .int .u32 c.pc, .slice x2 n2 y2, .slice x3 n3 y3, .slice x4 n4 y4, .slice x5 n5 y5, .int .u32 c.low, .int .i64 c.st] 32)).alloc (.cells #[.int .i64 2, .int .i64 rd, .int .i64 s1, .int .i64 s2, .int .i64 im] 52)).alloc (.cells #[.slice none 0 0, .int .u32 0, .slice none 0 0, .slice none 0 0, .slice none 0 0, .slice none 0 0, .int .u32 0, .int .i64 0] 32)) := ((((Below.refl _ _).alloc (Nat.le_refl _) _).alloc (by simp) _).alloc (by simp; omega) _).alloc (by simp; omega) _
  have hCb : ((((w.alloc (.cells #[.slice ma mn mc', .int .i64 md, .int .i64 mb] 34)).alloc (.cells #[.slice (some ⟨g, off, none⟩) 32 y1, .int .u32 c.pc, .slice x2 n2 y2, .slice x3 n3 y3, .slice x4 n4 y4, .slice x5 n5 y5, .int .u32 c.low, .int .i64 c.st] 32)).alloc (.cells #[.int .i64 2, .int .i64 rd, .int .i64 s1, .int .i64 s2, .int .i64 im] 52)).alloc (.cells #[.slice none 0 0, .int .u32 0, .slice none 0 0, .slice none 0 0, .slice none 0 0, .slice none 0 0, .int .u32 0, .int .i64 0] 32)).heap[w.heap.size + 1]? = some (.cells #[.slice (some ⟨g, off, none⟩) 32 y1, .int .u32 c.pc, .slice x2 n2 y2, .slice x3 n3 y3, .slice x4 n4 y4, .slice x5 n5 y5, .int .u32 c.low, .int .i64 c.st] 32) := by
    rw [Below.heap_alloc _ _ _ (by simp), Below.heap_alloc _ _ _ (by simp)]
    have := heap_alloc_new (w.alloc (.cells #[.slice ma mn mc', .int .i64 md, .int .i64 mb] 34)) (.cells #[.slice (some ⟨g, off, none⟩) 32 y1, .int .u32 c.pc, .slice x2 n2 y2, .slice x3 n3 y3, .slice x4 n4 y4, .slice x5 n5 y5, .int .u32 c.low, .int .i64 c.st] 32)
    simpa only [World.size_alloc] using this
  have hI := h.boxed A4 hCb (by omega)
  obtain ⟨rv, d, s, i, o, hb, hr, hd, hs, hi, ho, hk, hL, hnd⟩ := id hI
  obtain rfl := Option.some.inj (hb.c0.symm.trans (Bx.of_heap hCb).c0)
  have hR := row_of hr hG.r32
  have cs1 := hR.cell s1 (by have := hG.r32; omega)
  have cs2 := hR.cell s2 (by have := hG.r32; omega)
  have hgw : g < w.heap.size := h.lt g hbk
  have e1 : ¬ g = w.heap.size := by omega
  have e2 : ¬ g = w.heap.size + 1 := by omega
  have e3 : ¬ g = w.heap.size + 1 + 1 := by omega
  have e4 : ¬ g = w.heap.size + 1 + 1 + 1 := by omega
  have cR := hR.cell rd (by have := hG.r32; omega)
  have fR := hR.froz (off + rd)
  have h0' : (0 : Int) < (rd : Int) := by omega
  have HX : Hid _ := And.intro h (And.intro A4 (And.intro hI (Bx.of_heap hCb)))
  clear hb hr hR hd hs hi ho hk hL hnd h A4 hCb hI hbk
  generalize hx1 : c.regs.getD s1 0 = a at *
  generalize hx2 : c.regs.getD s2 0 = b at *
  go_enter Tryz.func44, Tryz.ntmps44
  go_wp2_with (go_at_call 59; refine (shapeJ 2 _ rfl).mono ?_; rintro e w1 ⟨rfl, rfl⟩)
  refine bodyPost_ret (v := .agg #[.slice (some ⟨g, off, none⟩) 32 y1, .int .u32 ((c.pc + im) % 4294967296), .slice x2 n2 y2, .slice x3 n3 y3, .slice x4 n4 y4, .slice x5 n5 y5, .int .u32 c.low, .int .i64 c.st])
    (by simp [results, Tryz.results44, go_sem]) rfl ?_
  obtain ⟨hv, A4, hI, hb⟩ := HX.out
  have hl := hv.lt
  obtain ⟨k0, hgL⟩ := hI.set (v := (c.pc + 4) % 4294967296) hb hG.r32 hrd h0
  have b0 := hb.other (p := ⟨g, off + rd, none⟩) (fun e => e2 e.symm) (.int .u32 ((c.pc + 4) % 4294967296))
  have k1 := k0.pc ((c.pc + im) % 4294967296)
  have b1 := b0.s1 (.int .u32 ((c.pc + im) % 4294967296))
  have hgL' : g ∈ L := by
    rw [List.mem_cons] at hgL
    exact hgL.resolve_left e2
  have hv2 := CpuIn.giveBack (w := w) (R := w.heap.size + 1 + 1 + 1) k1 b1 ((Tcs.refl (fun k => k = w.heap.size + 1 + 1 + 1) _).set8 _ rfl (.slice (some ⟨g, off, none⟩) 32 y1) (.int .u32 ((c.pc + im) % 4294967296)) (.slice x2 n2 y2) (.slice x3 n3 y3) (.slice x4 n4 y4) (.slice x5 n5 y5) (.int .u32 c.low) (.int .i64 c.st)) (by omega) hl
  refine ⟨_, rfl, ?_, ?_⟩
  · dsimp only at hv2 ⊢
    rw [setR_low, setR_st] at hv2 ⊢
    exact hv2
  · exact ((((Below.tcs (S := fun x => x ∈ L) A4)).setCell (p := ⟨g, off + rd, none⟩) hgL' _).setNew (p := ⟨w.heap.size + 1, 1, none⟩) (by dsimp only; omega) _).new8 _ (by omega) _ _ _ _ _ _ _ _


set_option maxRecDepth 8000 in
set_option maxHeartbeats 1000000 in
theorem doJr1 (ma : Option Addr) (mn mc' : Nat) (md mb : Int) (v : Value) (L : List Nat) (c : Mc)  (rd s1 s2 : Nat) (im : Int) (w : World) (hG : Good c) (h : CpuV w v L c)  (h0 : 0 < rd) (hrd : rd < 32) (h1 : s1 < 32) (h2 : s2 < 32)
     :
    Calls Tryz.prog 44 #[.agg #[.slice ma mn mc', .int .i64 md, .int .i64 mb], v, .agg #[.int .i64 3, .int .i64 rd, .int .i64 s1, .int .i64 s2, .int .i64 im]] w fun e w' =>
      ∃ u, e = .returned u ∧ CpuV w' u L { setR c rd ((c.pc + 4) % 4294967296) with pc := (c.regs.getD s1 0 + im) % 4294967296 / 2 * 2 } ∧ Tcs (fun g => g ∈ L) w w' := by
  obtain ⟨g, off, y1, n2, n3, n4, n5, x2, y2, x3, y3, x4, y4, x5, y5, rfl, hbk⟩ := h.shape32 hG.r32
  have A4 : Below w.heap.size w ((((w.alloc (.cells #[.slice ma mn mc', .int .i64 md, .int .i64 mb] 34)).alloc (.cells #[.slice (some ⟨g, off, none⟩) 32 y1, .int .u32 c.pc, .slice x2 n2 y2, .slice x3 n3 y3, .slice x4 n4 y4, .slice x5 n5 y5, .int .u32 c.low, .int .i64 c.st] 32)).alloc (.cells #[.int .i64 3, .int .i64 rd, .int .i64 s1, .int .i64 s2, .int .i64 im] 52)).alloc (.cells #[.slice none 0 0, .int .u32 0, .slice none 0 0, .slice none 0 0, .slice none 0 0, .slice none 0 0, .int .u32 0, .int .i64 0] 32)) := ((((Below.refl _ _).alloc (Nat.le_refl _) _).alloc (by simp) _).alloc (by simp; omega) _).alloc (by simp; omega) _
  have hCb : ((((w.alloc (.cells #[.slice ma mn mc', .int .i64 md, .int .i64 mb] 34)).alloc (.cells #[.slice (some ⟨g, off, none⟩) 32 y1, .int .u32 c.pc, .slice x2 n2 y2, .slice x3 n3 y3, .slice x4 n4 y4, .slice x5 n5 y5, .int .u32 c.low, .int .i64 c.st] 32)).alloc (.cells #[.int .i64 3, .int .i64 rd, .int .i64 s1, .int .i64 s2, .int .i64 im] 52)).alloc (.cells #[.slice none 0 0, .int .u32 0, .slice none 0 0, .slice none 0 0, .slice none 0 0, .slice none 0 0, .int .u32 0, .int .i64 0] 32)).heap[w.heap.size + 1]? = some (.cells #[.slice (some ⟨g, off, none⟩) 32 y1, .int .u32 c.pc, .slice x2 n2 y2, .slice x3 n3 y3, .slice x4 n4 y4, .slice x5 n5 y5, .int .u32 c.low, .int .i64 c.st] 32) := by
    rw [Below.heap_alloc _ _ _ (by simp), Below.heap_alloc _ _ _ (by simp)]
    have := heap_alloc_new (w.alloc (.cells #[.slice ma mn mc', .int .i64 md, .int .i64 mb] 34)) (.cells #[.slice (some ⟨g, off, none⟩) 32 y1, .int .u32 c.pc, .slice x2 n2 y2, .slice x3 n3 y3, .slice x4 n4 y4, .slice x5 n5 y5, .int .u32 c.low, .int .i64 c.st] 32)
    simpa only [World.size_alloc] using this
  have hI := h.boxed A4 hCb (by omega)
  obtain ⟨rv, d, s, i, o, hb, hr, hd, hs, hi, ho, hk, hL, hnd⟩ := id hI
  obtain rfl := Option.some.inj (hb.c0.symm.trans (Bx.of_heap hCb).c0)
  have hR := row_of hr hG.r32
  have cs1 := hR.cell s1 (by have := hG.r32; omega)
  have cs2 := hR.cell s2 (by have := hG.r32; omega)
  have hgw : g < w.heap.size := h.lt g hbk
  have e1 : ¬ g = w.heap.size := by omega
  have e2 : ¬ g = w.heap.size + 1 := by omega
  have e3 : ¬ g = w.heap.size + 1 + 1 := by omega
  have e4 : ¬ g = w.heap.size + 1 + 1 + 1 := by omega
  have cR := hR.cell rd (by have := hG.r32; omega)
  have fR := hR.froz (off + rd)
  have h0' : (0 : Int) < (rd : Int) := by omega
  have HX : Hid _ := And.intro h (And.intro A4 (And.intro hI (Bx.of_heap hCb)))
  clear hb hr hR hd hs hi ho hk hL hnd h A4 hCb hI hbk
  generalize hx1 : c.regs.getD s1 0 = a at *
  generalize hx2 : c.regs.getD s2 0 = b at *
  go_enter Tryz.func44, Tryz.ntmps44
  go_wp2_with (go_at_call 59; refine (shapeI 3 _ (.inl rfl)).mono ?_; rintro e w1 ⟨rfl, rfl⟩)
  refine bodyPost_ret (v := .agg #[.slice (some ⟨g, off, none⟩) 32 y1, .int .u32 ((a + im) % 4294967296 / 2 * 2), .slice x2 n2 y2, .slice x3 n3 y3, .slice x4 n4 y4, .slice x5 n5 y5, .int .u32 c.low, .int .i64 c.st])
    (by simp [results, Tryz.results44, go_sem]) rfl ?_
  obtain ⟨hv, A4, hI, hb⟩ := HX.out
  have hl := hv.lt
  obtain ⟨k0, hgL⟩ := hI.set (v := (c.pc + 4) % 4294967296) hb hG.r32 hrd h0
  have b0 := hb.other (p := ⟨g, off + rd, none⟩) (fun e => e2 e.symm) (.int .u32 ((c.pc + 4) % 4294967296))
  have k1 := k0.pc ((a + im) % 4294967296 / 2 * 2)
  have b1 := b0.s1 (.int .u32 ((a + im) % 4294967296 / 2 * 2))
  have hgL' : g ∈ L := by
    rw [List.mem_cons] at hgL
    exact hgL.resolve_left e2
  have hv2 := CpuIn.giveBack (w := w) (R := w.heap.size + 1 + 1 + 1) k1 b1 ((Tcs.refl (fun k => k = w.heap.size + 1 + 1 + 1) _).set8 _ rfl (.slice (some ⟨g, off, none⟩) 32 y1) (.int .u32 ((a + im) % 4294967296 / 2 * 2)) (.slice x2 n2 y2) (.slice x3 n3 y3) (.slice x4 n4 y4) (.slice x5 n5 y5) (.int .u32 c.low) (.int .i64 c.st)) (by omega) hl
  refine ⟨_, rfl, ?_, ?_⟩
  · dsimp only at hv2 ⊢
    rw [setR_low, setR_st] at hv2 ⊢
    exact hv2
  · exact ((((Below.tcs (S := fun x => x ∈ L) A4)).setCell (p := ⟨g, off + rd, none⟩) hgL' _).setNew (p := ⟨w.heap.size + 1, 1, none⟩) (by dsimp only; omega) _).new8 _ (by omega) _ _ _ _ _ _ _ _


set_option maxRecDepth 8000 in
set_option maxHeartbeats 1000000 in
theorem doU0 (ma : Option Addr) (mn mc' : Nat) (md mb : Int) (v : Value) (L : List Nat) (c : Mc)  (s1 s2 : Nat) (im : Int) (w : World) (hG : Good c) (h : CpuV w v L c)  (h1 : s1 < 32) (h2 : s2 < 32)
     :
    Calls Tryz.prog 44 #[.agg #[.slice ma mn mc', .int .i64 md, .int .i64 mb], v, .agg #[.int .i64 1, .int .i64 0, .int .i64 s1, .int .i64 s2, .int .i64 im]] w fun e w' =>
      ∃ u, e = .returned u ∧ CpuV w' u L { setR c 0 (im % 4294967296 * 4096 % 4294967296) with pc := (c.pc + 4) % 4294967296 } ∧ Tcs (fun g => g ∈ L) w w' := by
  obtain ⟨g, off, y1, n2, n3, n4, n5, x2, y2, x3, y3, x4, y4, x5, y5, rfl, hbk⟩ := h.shape32 hG.r32
  have A4 : Below w.heap.size w ((((w.alloc (.cells #[.slice ma mn mc', .int .i64 md, .int .i64 mb] 34)).alloc (.cells #[.slice (some ⟨g, off, none⟩) 32 y1, .int .u32 c.pc, .slice x2 n2 y2, .slice x3 n3 y3, .slice x4 n4 y4, .slice x5 n5 y5, .int .u32 c.low, .int .i64 c.st] 32)).alloc (.cells #[.int .i64 1, .int .i64 0, .int .i64 s1, .int .i64 s2, .int .i64 im] 52)).alloc (.cells #[.slice none 0 0, .int .u32 0, .slice none 0 0, .slice none 0 0, .slice none 0 0, .slice none 0 0, .int .u32 0, .int .i64 0] 32)) := ((((Below.refl _ _).alloc (Nat.le_refl _) _).alloc (by simp) _).alloc (by simp; omega) _).alloc (by simp; omega) _
  have hCb : ((((w.alloc (.cells #[.slice ma mn mc', .int .i64 md, .int .i64 mb] 34)).alloc (.cells #[.slice (some ⟨g, off, none⟩) 32 y1, .int .u32 c.pc, .slice x2 n2 y2, .slice x3 n3 y3, .slice x4 n4 y4, .slice x5 n5 y5, .int .u32 c.low, .int .i64 c.st] 32)).alloc (.cells #[.int .i64 1, .int .i64 0, .int .i64 s1, .int .i64 s2, .int .i64 im] 52)).alloc (.cells #[.slice none 0 0, .int .u32 0, .slice none 0 0, .slice none 0 0, .slice none 0 0, .slice none 0 0, .int .u32 0, .int .i64 0] 32)).heap[w.heap.size + 1]? = some (.cells #[.slice (some ⟨g, off, none⟩) 32 y1, .int .u32 c.pc, .slice x2 n2 y2, .slice x3 n3 y3, .slice x4 n4 y4, .slice x5 n5 y5, .int .u32 c.low, .int .i64 c.st] 32) := by
    rw [Below.heap_alloc _ _ _ (by simp), Below.heap_alloc _ _ _ (by simp)]
    have := heap_alloc_new (w.alloc (.cells #[.slice ma mn mc', .int .i64 md, .int .i64 mb] 34)) (.cells #[.slice (some ⟨g, off, none⟩) 32 y1, .int .u32 c.pc, .slice x2 n2 y2, .slice x3 n3 y3, .slice x4 n4 y4, .slice x5 n5 y5, .int .u32 c.low, .int .i64 c.st] 32)
    simpa only [World.size_alloc] using this
  have hI := h.boxed A4 hCb (by omega)
  obtain ⟨rv, d, s, i, o, hb, hr, hd, hs, hi, ho, hk, hL, hnd⟩ := id hI
  obtain rfl := Option.some.inj (hb.c0.symm.trans (Bx.of_heap hCb).c0)
  have hR := row_of hr hG.r32
  have cs1 := hR.cell s1 (by have := hG.r32; omega)
  have cs2 := hR.cell s2 (by have := hG.r32; omega)
  have hgw : g < w.heap.size := h.lt g hbk
  have e1 : ¬ g = w.heap.size := by omega
  have e2 : ¬ g = w.heap.size + 1 := by omega
  have e3 : ¬ g = w.heap.size + 1 + 1 := by omega
  have e4 : ¬ g = w.heap.size + 1 + 1 + 1 := by omega
  have HX : Hid _ := And.intro h (And.intro A4 (And.intro hI (Bx.of_heap hCb)))
  clear hb hr hR hd hs hi ho hk hL hnd h A4 hCb hI hbk
  generalize hx1 : c.regs.getD s1 0 = a at *
  generalize hx2 : c.regs.getD s2 0 = b at *
  go_enter Tryz.func44, Tryz.ntmps44
  go_wp2_with (go_at_call 59; refine (shapeU 1 _ rfl).mono ?_; rintro e w1 ⟨rfl, rfl⟩)
  refine bodyPost_ret (v := .agg #[.slice (some ⟨g, off, none⟩) 32 y1, .int .u32 ((c.pc + 4) % 4294967296), .slice x2 n2 y2, .slice x3 n3 y3, .slice x4 n4 y4, .slice x5 n5 y5, .int .u32 c.low, .int .i64 c.st])
    (by simp [results, Tryz.results44, go_sem]) rfl ?_
  obtain ⟨hv, A4, hI, hb⟩ := HX.out
  have B4 := fun o1 o2 o3 o4 => ((((Below.refl w.heap.size w).alloc (Nat.le_refl _) o1).alloc (by simp) o2).alloc (by simp; omega) o3).alloc (by simp; omega) o4
  refine ⟨_, rfl, ?_, Below.tcs (B4 _ _ _ _)⟩
  rw [setR_zero]
  exact (hv.pc _).below (B4 _ _ _ _)


set_option maxRecDepth 8000 in
set_option maxHeartbeats 1000000 in
theorem doJ0 (ma : Option Addr) (mn mc' : Nat) (md mb : Int) (v : Value) (L : List Nat) (c : Mc)  (s1 s2 : Nat) (im : Int) (w : World) (hG : Good c) (h : CpuV w v L c)  (h1 : s1 < 32) (h2 : s2 < 32)
     :
    Calls Tryz.prog 44 #[.agg #[.slice ma mn mc', .int .i64 md, .int .i64 mb], v, .agg #[.int .i64 2, .int .i64 0, .int .i64 s1, .int .i64 s2, .int .i64 im]] w fun e w' =>
      ∃ u, e = .returned u ∧ CpuV w' u L { setR c 0 ((c.pc + 4) % 4294967296) with pc := (c.pc + im) % 4294967296 } ∧ Tcs (fun g => g ∈ L) w w' := by
  obtain ⟨g, off, y1, n2, n3, n4, n5, x2, y2, x3, y3, x4, y4, x5, y5, rfl, hbk⟩ := h.shape32 hG.r32
  have A4 : Below w.heap.size w ((((w.alloc (.cells #[.slice ma mn mc', .int .i64 md, .int .i64 mb] 34)).alloc (.cells #[.slice (some ⟨g, off, none⟩) 32 y1, .int .u32 c.pc, .slice x2 n2 y2, .slice x3 n3 y3, .slice x4 n4 y4, .slice x5 n5 y5, .int .u32 c.low, .int .i64 c.st] 32)).alloc (.cells #[.int .i64 2, .int .i64 0, .int .i64 s1, .int .i64 s2, .int .i64 im] 52)).alloc (.cells #[.slice none 0 0, .int .u32 0, .slice none 0 0, .slice none 0 0, .slice none 0 0, .slice none 0 0, .int .u32 0, .int .i64 0] 32)) := ((((Below.refl _ _).alloc (Nat.le_refl _) _).alloc (by simp) _).alloc (by simp; omega) _).alloc (by simp; omega) _
  have hCb : ((((w.alloc (.cells #[.slice ma mn mc', .int .i64 md, .int .i64 mb] 34)).alloc (.cells #[.slice (some ⟨g, off, none⟩) 32 y1, .int .u32 c.pc, .slice x2 n2 y2, .slice x3 n3 y3, .slice x4 n4 y4, .slice x5 n5 y5, .int .u32 c.low, .int .i64 c.st] 32)).alloc (.cells #[.int .i64 2, .int .i64 0, .int .i64 s1, .int .i64 s2, .int .i64 im] 52)).alloc (.cells #[.slice none 0 0, .int .u32 0, .slice none 0 0, .slice none 0 0, .slice none 0 0, .slice none 0 0, .int .u32 0, .int .i64 0] 32)).heap[w.heap.size + 1]? = some (.cells #[.slice (some ⟨g, off, none⟩) 32 y1, .int .u32 c.pc, .slice x2 n2 y2, .slice x3 n3 y3, .slice x4 n4 y4, .slice x5 n5 y5, .int .u32 c.low, .int .i64 c.st] 32) := by
    rw [Below.heap_alloc _ _ _ (by simp), Below.heap_alloc _ _ _ (by simp)]
    have := heap_alloc_new (w.alloc (.cells #[.slice ma mn mc', .int .i64 md, .int .i64 mb] 34)) (.cells #[.slice (some ⟨g, off, none⟩) 32 y1, .int .u32 c.pc, .slice x2 n2 y2, .slice x3 n3 y3, .slice x4 n4 y4, .slice x5 n5 y5, .int .u32 c.low, .int .i64 c.st] 32)
    simpa only [World.size_alloc] using this
  have hI := h.boxed A4 hCb (by omega)
  obtain ⟨rv, d, s, i, o, hb, hr, hd, hs, hi, ho, hk, hL, hnd⟩ := id hI
  obtain rfl := Option.some.inj (hb.c0.symm.trans (Bx.of_heap hCb).c0)
  have hR := row_of hr hG.r32
  have cs1 := hR.cell s1 (by have := hG.r32; omega)
  have cs2 := hR.cell s2 (by have := hG.r32; omega)
  have hgw : g < w.heap.size := h.lt g hbk
  have e1 : ¬ g = w.heap.size := by omega
  have e2 : ¬ g = w.heap.size + 1 := by omega
  have e3 : ¬ g = w.heap.size + 1 + 1 := by omega
  have e4 : ¬ g = w.heap.size + 1 + 1 + 1 := by omega
  have HX : Hid _ := And.intro h (And.intro A4 (And.intro hI (Bx.of_heap hCb)))
  clear hb hr hR hd hs hi ho hk hL hnd h A4 hCb hI hbk
  generalize hx1 : c.regs.getD s1 0 = a at *
  generalize hx2 : c.regs.getD s2 0 = b at *
  go_enter Tryz.func44, Tryz.ntmps44
  go_wp2_with (go_at_call 59; refine (shapeJ 2 _ rfl).mono ?_; rintro e w1 ⟨rfl, rfl⟩)
  refine bodyPost_ret (v := .agg #[.slice (some ⟨g, off, none⟩) 32 y1, .int .u32 ((c.pc + im) % 4294967296), .slice x2 n2 y2, .slice x3 n3 y3, .slice x4 n4 y4, .slice x5 n5 y5, .int .u32 c.low, .int .i64 c.st])
    (by simp [results, Tryz.results44, go_sem]) rfl ?_
  obtain ⟨hv, A4, hI, hb⟩ := HX.out
  have B4 := fun o1 o2 o3 o4 => ((((Below.refl w.heap.size w).alloc (Nat.le_refl _) o1).alloc (by simp) o2).alloc (by simp; omega) o3).alloc (by simp; omega) o4
  refine ⟨_, rfl, ?_, Below.tcs (B4 _ _ _ _)⟩
  rw [setR_zero]
  exact (hv.pc _).below (B4 _ _ _ _)


set_option maxRecDepth 8000 in
set_option maxHeartbeats 1000000 in
theorem doJr0 (ma : Option Addr) (mn mc' : Nat) (md mb : Int) (v : Value) (L : List Nat) (c : Mc)  (s1 s2 : Nat) (im : Int) (w : World) (hG : Good c) (h : CpuV w v L c)  (h1 : s1 < 32) (h2 : s2 < 32)
     :
    Calls Tryz.prog 44 #[.agg #[.slice ma mn mc', .int .i64 md, .int .i64 mb], v, .agg #[.int .i64 3, .int .i64 0, .int .i64 s1, .int .i64 s2, .int .i64 im]] w fun e w' =>
      ∃ u, e = .returned u ∧ CpuV w' u L { setR c 0 ((c.pc + 4) % 4294967296) with pc := (c.regs.getD s1 0 + im) % 4294967296 / 2 * 2 } ∧ Tcs (fun g => g ∈ L) w w' := by
  obtain ⟨g, off, y1, n2, n3, n4, n5, x2, y2, x3, y3, x4, y4, x5, y5, rfl, hbk⟩ := h.shape32 hG.r32
  have A4 : Below w.heap.size w ((((w.alloc (.cells #[.slice ma mn mc', .int .i64 md, .int .i64 mb] 34)).alloc (.cells #[.slice (some ⟨g, off, none⟩) 32 y1, .int .u32 c.pc, .slice x2 n2 y2, .slice x3 n3 y3, .slice x4 n4 y4, .slice x5 n5 y5, .int .u32 c.low, .int .i64 c.st] 32)).alloc (.cells #[.int .i64 3, .int .i64 0, .int .i64 s1, .int .i64 s2, .int .i64 im] 52)).alloc (.cells #[.slice none 0 0, .int .u32 0, .slice none 0 0, .slice none 0 0, .slice none 0 0, .slice none 0 0, .int .u32 0, .int .i64 0] 32)) := ((((Below.refl _ _).alloc (Nat.le_refl _) _).alloc (by simp) _).alloc (by simp; omega) _).alloc (by simp; omega) _
  have hCb : ((((w.alloc (.cells #[.slice ma mn mc', .int .i64 md, .int .i64 mb] 34)).alloc (.cells #[.slice (some ⟨g, off, none⟩) 32 y1, .int .u32 c.pc, .slice x2 n2 y2, .slice x3 n3 y3, .slice x4 n4 y4, .slice x5 n5 y5, .int .u32 c.low, .int .i64 c.st] 32)).alloc (.cells #[.int .i64 3, .int .i64 0, .int .i64 s1, .int .i64 s2, .int .i64 im] 52)).alloc (.cells #[.slice none 0 0, .int .u32 0, .slice none 0 0, .slice none 0 0, .slice none 0 0, .slice none 0 0, .int .u32 0, .int .i64 0] 32)).heap[w.heap.size + 1]? = some (.cells #[.slice (some ⟨g, off, none⟩) 32 y1, .int .u32 c.pc, .slice x2 n2 y2, .slice x3 n3 y3, .slice x4 n4 y4, .slice x5 n5 y5, .int .u32 c.low, .int .i64 c.st] 32) := by
    rw [Below.heap_alloc _ _ _ (by simp), Below.heap_alloc _ _ _ (by simp)]
    have := heap_alloc_new (w.alloc (.cells #[.slice ma mn mc', .int .i64 md, .int .i64 mb] 34)) (.cells #[.slice (some ⟨g, off, none⟩) 32 y1, .int .u32 c.pc, .slice x2 n2 y2, .slice x3 n3 y3, .slice x4 n4 y4, .slice x5 n5 y5, .int .u32 c.low, .int .i64 c.st] 32)
    simpa only [World.size_alloc] using this
  have hI := h.boxed A4 hCb (by omega)
  obtain ⟨rv, d, s, i, o, hb, hr, hd, hs, hi, ho, hk, hL, hnd⟩ := id hI
  obtain rfl := Option.some.inj (hb.c0.symm.trans (Bx.of_heap hCb).c0)
  have hR := row_of hr hG.r32
  have cs1 := hR.cell s1 (by have := hG.r32; omega)
  have cs2 := hR.cell s2 (by have := hG.r32; omega)
  have hgw : g < w.heap.size := h.lt g hbk
  have e1 : ¬ g = w.heap.size := by omega
  have e2 : ¬ g = w.heap.size + 1 := by omega
  have e3 : ¬ g = w.heap.size + 1 + 1 := by omega
  have e4 : ¬ g = w.heap.size + 1 + 1 + 1 := by omega
  have HX : Hid _ := And.intro h (And.intro A4 (And.intro hI (Bx.of_heap hCb)))
  clear hb hr hR hd hs hi ho hk hL hnd h A4 hCb hI hbk
  generalize hx1 : c.regs.getD s1 0 = a at *
  generalize hx2 : c.regs.getD s2 0 = b at *
  go_enter Tryz.func44, Tryz.ntmps44
  go_wp2_with (go_at_call 59; refine (shapeI 3 _ (.inl rfl)).mono ?_; rintro e w1 ⟨rfl, rfl⟩)
  refine bodyPost_ret (v := .agg #[.slice (some ⟨g, off, none⟩) 32 y1, .int .u32 ((a + im) % 4294967296 / 2 * 2), .slice x2 n2 y2, .slice x3 n3 y3, .slice x4 n4 y4, .slice x5 n5 y5, .int .u32 c.low, .int .i64 c.st])
    (by simp [results, Tryz.results44, go_sem]) rfl ?_
  obtain ⟨hv, A4, hI, hb⟩ := HX.out
  have B4 := fun o1 o2 o3 o4 => ((((Below.refl w.heap.size w).alloc (Nat.le_refl _) o1).alloc (by simp) o2).alloc (by simp; omega) o3).alloc (by simp; omega) o4
  refine ⟨_, rfl, ?_, Below.tcs (B4 _ _ _ _)⟩
  rw [setR_zero]
  exact (hv.pc _).below (B4 _ _ _ _)

end Go.Proofs.YtabjcodpagjbjaaGreat
