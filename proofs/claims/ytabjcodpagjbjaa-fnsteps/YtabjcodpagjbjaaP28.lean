import Derived.Test.YtabjcodpagjbjaaP07
import Derived.Test.YtabjcodpagjbjaaP05
namespace Go.Proofs.Ytabjcodpagjbjaa
open Go.RowKit
set_option linter.unusedVariables false
set_option linter.unusedSimpArgs false

set_option maxRecDepth 8000 in
set_option maxHeartbeats 1000000 in
theorem doI1 (ma : Option Addr) (mn mc' : Nat) (md mb : Int) (v : Value) (L : List Nat) (c : Mc) (op r : Int) (rd s1 s2 : Nat) (im : Int) (w : World) (hG : Good c) (h : CpuV w v L c) (hop : 12 ≤ op ∧ op ≤ 17) (h0 : 0 < rd) (hrd : rd < 32) (h1 : s1 < 32) (h2 : s2 < 32)
    (hA : AluIs op (c.regs.getD s1 0) (im % 4294967296) r) :
    Calls Try.prog 62 #[.agg #[.slice ma mn mc', .int .i64 md, .int .i64 mb], v, .agg #[.int .i64 op, .int .i64 rd, .int .i64 s1, .int .i64 s2, .int .i64 im]] w fun e w' =>
      ∃ u, e = .returned u ∧ CpuV w' u L { setR c rd (r) with pc := (c.pc + 4) % 4294967296 } ∧ Tcs (fun g => g ∈ L) w w' := by
  obtain ⟨g, off, y1, n2, n3, n4, n5, x2, y2, x3, y3, x4, y4, x5, y5, rfl, hbk⟩ := h.shape32 hG.r32
  have A4 : Below w.heap.size w ((((w.alloc (.cells #[.slice ma mn mc', .int .i64 md, .int .i64 mb] 25)).alloc (.cells #[.slice (some ⟨g, off, none⟩) 32 y1, .int .u32 c.pc, .slice x2 n2 y2, .slice x3 n3 y3, .slice x4 n4 y4, .slice x5 n5 y5, .int .u32 c.low, .int .i64 c.st] 32)).alloc (.cells #[.int .i64 op, .int .i64 rd, .int .i64 s1, .int .i64 s2, .int .i64 im] 64)).alloc (.cells #[.slice none 0 0, .int .u32 0, .slice none 0 0, .slice none 0 0, .slice none 0 0, .slice none 0 0, .int .u32 0, .int .i64 0] 32)) := ((((Below.refl _ _).alloc (Nat.le_refl _) _).alloc (by simp) _).alloc (by simp; omega) _).alloc (by simp; omega) _
  have hCb : ((((w.alloc (.cells #[.slice ma mn mc', .int .i64 md, .int .i64 mb] 25)).alloc (.cells #[.slice (some ⟨g, off, none⟩) 32 y1, .int .u32 c.pc, .slice x2 n2 y2, .slice x3 n3 y3, .slice x4 n4 y4, .slice x5 n5 y5, .int .u32 c.low, .int .i64 c.st] 32)).alloc (.cells #[.int .i64 op, .int .i64 rd, .int .i64 s1, .int .i64 s2, .int .i64 im] 64)).alloc (.cells #[.slice none 0 0, .int .u32 0, .slice none 0 0, .slice none 0 0, .slice none 0 0, .slice none 0 0, .int .u32 0, .int .i64 0] 32)).heap[w.heap.size + 1]? = some (.cells #[.slice (some ⟨g, off, none⟩) 32 y1, .int .u32 c.pc, .slice x2 n2 y2, .slice x3 n3 y3, .slice x4 n4 y4, .slice x5 n5 y5, .int .u32 c.low, .int .i64 c.st] 32) := by
    rw [Below.heap_alloc _ _ _ (by simp), Below.heap_alloc _ _ _ (by simp)]
    have := heap_alloc_new (w.alloc (.cells #[.slice ma mn mc', .int .i64 md, .int .i64 mb] 25)) (.cells #[.slice (some ⟨g, off, none⟩) 32 y1, .int .u32 c.pc, .slice x2 n2 y2, .slice x3 n3 y3, .slice x4 n4 y4, .slice x5 n5 y5, .int .u32 c.low, .int .i64 c.st] 32)
    simpa only [World.size_alloc] using this
  have hI := h.boxed A4 hCb (by omega)
  obtain ⟨rv, d, s, i, o, hb, hr, hd, hs, hi, ho, hk, hL, hnd⟩ := id hI
  obtain rfl := Option.some.inj (hb.c0.symm.trans (Bx.of_heap hCb).c0)
  have hR := row_of hr hG.r32
  have cs1 := hR.cell s1 (by have := hG.r32; omega)
  have cs2 := hR.cell s2 (by have := hG.r32; omega)
  have hgw : g < w.heap.size := h.lt g hbk
  have e1 : ¬ g = w.heap.size := by omega
  have e2 : ¬ g = w.heap.size + 1 := by omega
  have e3 : ¬ g = w.heap.size + 1 + 1 := by omega
  have e4 : ¬ g = w.heap.size + 1 + 1 + 1 := by omega
  have cR := hR.cell rd (by have := hG.r32; omega)
  have fR := hR.froz (off + rd)
  have o1 : ¬ op = 10 := by omega
  have o2 : ¬ op = 11 := by omega
  have o3 : ¬ op = 34 := by omega
  have o5 : ¬ op = 3 := by omega
  have o4 : (op == 10 || op == 11) = false := by simp [o1, o2]
  have HI : Hid _ := hA
  clear hA
  have h0' : (0 : Int) < (rd : Int) := by omega
  have HX : Hid _ := And.intro h (And.intro A4 (And.intro hI (Bx.of_heap hCb)))
  clear hb hr hR hd hs hi ho hk hL hnd h A4 hCb hI hbk
  generalize hx1 : c.regs.getD s1 0 = a at *
  generalize hx2 : c.regs.getD s2 0 = b at *
  go_enter Try.func62, Try.ntmps62
  go_wp2_with (first | (go_at_call 53; refine (shapeI op _ (.inr (.inr hop))).mono ?_; rintro e w1 ⟨rfl, rfl⟩) | (go_at_call 82; refine (HI.out.2.2 _).mono ?_; rintro e w2 ⟨rfl, rfl⟩))
  refine bodyPost_ret (v := .agg #[.slice (some ⟨g, off, none⟩) 32 y1, .int .u32 ((c.pc + 4) % 4294967296), .slice x2 n2 y2, .slice x3 n3 y3, .slice x4 n4 y4, .slice x5 n5 y5, .int .u32 c.low, .int .i64 c.st])
    (by simp [results, Try.results62, go_sem]) rfl ?_
  obtain ⟨hv, A4, hI, hb⟩ := HX.out
  have hl := hv.lt
  obtain ⟨k0, hgL⟩ := hI.set (v := r) hb hG.r32 hrd h0
  have b0 := hb.other (p := ⟨g, off + rd, none⟩) (fun e => e2 e.symm) (.int .u32 (r))
  have k1 := k0.pc ((c.pc + 4) % 4294967296)
  have b1 := b0.s1 (.int .u32 ((c.pc + 4) % 4294967296))
  have hgL' : g ∈ L := by
    rw [List.mem_cons] at hgL
    exact hgL.resolve_left e2
  have hv2 := CpuIn.giveBack (w := w) (R := w.heap.size + 1 + 1 + 1) k1 b1 ((Tcs.refl (fun k => k = w.heap.size + 1 + 1 + 1) _).set8 _ rfl (.slice (some ⟨g, off, none⟩) 32 y1) (.int .u32 ((c.pc + 4) % 4294967296)) (.slice x2 n2 y2) (.slice x3 n3 y3) (.slice x4 n4 y4) (.slice x5 n5 y5) (.int .u32 c.low) (.int .i64 c.st)) (by omega) hl
  refine ⟨_, rfl, ?_, ?_⟩
  · dsimp only at hv2 ⊢
    rw [setR_low, setR_st] at hv2 ⊢
    exact hv2
  · exact ((((Below.tcs (S := fun x => x ∈ L) A4)).setCell (p := ⟨g, off + rd, none⟩) hgL' _).setNew (p := ⟨w.heap.size + 1, 1, none⟩) (by dsimp only; omega) _).new8 _ (by omega) _ _ _ _ _ _ _ _


set_option maxRecDepth 8000 in
set_option maxHeartbeats 1000000 in
theorem doH1 (ma : Option Addr) (mn mc' : Nat) (md mb : Int) (v : Value) (L : List Nat) (c : Mc) (op r : Int) (rd s1 s2 : Nat) (im : Int) (w : World) (hG : Good c) (h : CpuV w v L c) (hop : 18 ≤ op ∧ op ≤ 20) (h0 : 0 < rd) (hrd : rd < 32) (h1 : s1 < 32) (h2 : s2 < 32)
    (hA : AluIs op (c.regs.getD s1 0) (im % 4294967296) r) :
    Calls Try.prog 62 #[.agg #[.slice ma mn mc', .int .i64 md, .int .i64 mb], v, .agg #[.int .i64 op, .int .i64 rd, .int .i64 s1, .int .i64 s2, .int .i64 im]] w fun e w' =>
      ∃ u, e = .returned u ∧ CpuV w' u L { setR c rd (r) with pc := (c.pc + 4) % 4294967296 } ∧ Tcs (fun g => g ∈ L) w w' := by
  obtain ⟨g, off, y1, n2, n3, n4, n5, x2, y2, x3, y3, x4, y4, x5, y5, rfl, hbk⟩ := h.shape32 hG.r32
  have A4 : Below w.heap.size w ((((w.alloc (.cells #[.slice ma mn mc', .int .i64 md, .int .i64 mb] 25)).alloc (.cells #[.slice (some ⟨g, off, none⟩) 32 y1, .int .u32 c.pc, .slice x2 n2 y2, .slice x3 n3 y3, .slice x4 n4 y4, .slice x5 n5 y5, .int .u32 c.low, .int .i64 c.st] 32)).alloc (.cells #[.int .i64 op, .int .i64 rd, .int .i64 s1, .int .i64 s2, .int .i64 im] 64)).alloc (.cells #[.slice none 0 0, .int .u32 0, .slice none 0 0, .slice none 0 0, .slice none 0 0, .slice none 0 0, .int .u32 0, .int .i64 0] 32)) := ((((Below.refl _ _).alloc (Nat.le_refl _) _).alloc (by simp) _).alloc (by simp; omega) _).alloc (by simp; omega) _
  have hCb : ((((w.alloc (.cells #[.slice ma mn mc', .int .i64 md, .int .i64 mb] 25)).alloc (.cells #[.slice (some ⟨g, off, none⟩) 32 y1, .int .u32 c.pc, .slice x2 n2 y2, .slice x3 n3 y3, .slice x4 n4 y4, .slice x5 n5 y5, .int .u32 c.low, .int .i64 c.st] 32)).alloc (.cells #[.int .i64 op, .int .i64 rd, .int .i64 s1, .int .i64 s2, .int .i64 im] 64)).alloc (.cells #[.slice none 0 0, .int .u32 0, .slice none 0 0, .slice none 0 0, .slice none 0 0, .slice none 0 0, .int .u32 0, .int .i64 0] 32)).heap[w.heap.size + 1]? = some (.cells #[.slice (some ⟨g, off, none⟩) 32 y1, .int .u32 c.pc, .slice x2 n2 y2, .slice x3 n3 y3, .slice x4 n4 y4, .slice x5 n5 y5, .int .u32 c.low, .int .i64 c.st] 32) := by
    rw [Below.heap_alloc _ _ _ (by simp), Below.heap_alloc _ _ _ (by simp)]
    have := heap_alloc_new (w.alloc (.cells #[.slice ma mn mc', .int .i64 md, .int .i64 mb] 25)) (.cells #[.slice (some ⟨g, off, none⟩) 32 y1, .int .u32 c.pc, .slice x2 n2 y2, .slice x3 n3 y3, .slice x4 n4 y4, .slice x5 n5 y5, .int .u32 c.low, .int .i64 c.st] 32)
    simpa only [World.size_alloc] using this
  have hI := h.boxed A4 hCb (by omega)
  obtain ⟨rv, d, s, i, o, hb, hr, hd, hs, hi, ho, hk, hL, hnd⟩ := id hI
  obtain rfl := Option.some.inj (hb.c0.symm.trans (Bx.of_heap hCb).c0)
  have hR := row_of hr hG.r32
  have cs1 := hR.cell s1 (by have := hG.r32; omega)
  have cs2 := hR.cell s2 (by have := hG.r32; omega)
  have hgw : g < w.heap.size := h.lt g hbk
  have e1 : ¬ g = w.heap.size := by omega
  have e2 : ¬ g = w.heap.size + 1 := by omega
  have e3 : ¬ g = w.heap.size + 1 + 1 := by omega
  have e4 : ¬ g = w.heap.size + 1 + 1 + 1 := by omega
  have cR := hR.cell rd (by have := hG.r32; omega)
  have fR := hR.froz (off + rd)
  have o1 : ¬ op = 10 := by omega
  have o2 : ¬ op = 11 := by omega
  have o3 : ¬ op = 34 := by omega
  have o5 : ¬ op = 3 := by omega
  have o4 : (op == 10 || op == 11) = false := by simp [o1, o2]
  have HI : Hid _ := hA
  clear hA
  have h0' : (0 : Int) < (rd : Int) := by omega
  have HX : Hid _ := And.intro h (And.intro A4 (And.intro hI (Bx.of_heap hCb)))
  clear hb hr hR hd hs hi ho hk hL hnd h A4 hCb hI hbk
  generalize hx1 : c.regs.getD s1 0 = a at *
  generalize hx2 : c.regs.getD s2 0 = b at *
  go_enter Try.func62, Try.ntmps62
  go_wp2_with (first | (go_at_call 53; refine (shapeH op _ hop).mono ?_; rintro e w1 ⟨rfl, rfl⟩) | (go_at_call 82; refine (HI.out.2.2 _).mono ?_; rintro e w2 ⟨rfl, rfl⟩))
  refine bodyPost_ret (v := .agg #[.slice (some ⟨g, off, none⟩) 32 y1, .int .u32 ((c.pc + 4) % 4294967296), .slice x2 n2 y2, .slice x3 n3 y3, .slice x4 n4 y4, .slice x5 n5 y5, .int .u32 c.low, .int .i64 c.st])
    (by simp [results, Try.results62, go_sem]) rfl ?_
  obtain ⟨hv, A4, hI, hb⟩ := HX.out
  have hl := hv.lt
  obtain ⟨k0, hgL⟩ := hI.set (v := r) hb hG.r32 hrd h0
  have b0 := hb.other (p := ⟨g, off + rd, none⟩) (fun e => e2 e.symm) (.int .u32 (r))
  have k1 := k0.pc ((c.pc + 4) % 4294967296)
  have b1 := b0.s1 (.int .u32 ((c.pc + 4) % 4294967296))
  have hgL' : g ∈ L := by
    rw [List.mem_cons] at hgL
    exact hgL.resolve_left e2
  have hv2 := CpuIn.giveBack (w := w) (R := w.heap.size + 1 + 1 + 1) k1 b1 ((Tcs.refl (fun k => k = w.heap.size + 1 + 1 + 1) _).set8 _ rfl (.slice (some ⟨g, off, none⟩) 32 y1) (.int .u32 ((c.pc + 4) % 4294967296)) (.slice x2 n2 y2) (.slice x3 n3 y3) (.slice x4 n4 y4) (.slice x5 n5 y5) (.int .u32 c.low) (.int .i64 c.st)) (by omega) hl
  refine ⟨_, rfl, ?_, ?_⟩
  · dsimp only at hv2 ⊢
    rw [setR_low, setR_st] at hv2 ⊢
    exact hv2
  · exact ((((Below.tcs (S := fun x => x ∈ L) A4)).setCell (p := ⟨g, off + rd, none⟩) hgL' _).setNew (p := ⟨w.heap.size + 1, 1, none⟩) (by dsimp only; omega) _).new8 _ (by omega) _ _ _ _ _ _ _ _


set_option maxRecDepth 8000 in
set_option maxHeartbeats 1000000 in
theorem doI0 (ma : Option Addr) (mn mc' : Nat) (md mb : Int) (v : Value) (L : List Nat) (c : Mc) (op r : Int) (s1 s2 : Nat) (im : Int) (w : World) (hG : Good c) (h : CpuV w v L c) (hop : 12 ≤ op ∧ op ≤ 17) (h1 : s1 < 32) (h2 : s2 < 32)
    (hA : AluIs op (c.regs.getD s1 0) (im % 4294967296) r) :
    Calls Try.prog 62 #[.agg #[.slice ma mn mc', .int .i64 md, .int .i64 mb], v, .agg #[.int .i64 op, .int .i64 0, .int .i64 s1, .int .i64 s2, .int .i64 im]] w fun e w' =>
      ∃ u, e = .returned u ∧ CpuV w' u L { setR c 0 (r) with pc := (c.pc + 4) % 4294967296 } ∧ Tcs (fun g => g ∈ L) w w' := by
  obtain ⟨g, off, y1, n2, n3, n4, n5, x2, y2, x3, y3, x4, y4, x5, y5, rfl, hbk⟩ := h.shape32 hG.r32
  have A4 : Below w.heap.size w ((((w.alloc (.cells #[.slice ma mn mc', .int .i64 md, .int .i64 mb] 25)).alloc (.cells #[.slice (some ⟨g, off, none⟩) 32 y1, .int .u32 c.pc, .slice x2 n2 y2, .slice x3 n3 y3, .slice x4 n4 y4, .slice x5 n5 y5, .int .u32 c.low, .int .i64 c.st] 32)).alloc (.cells #[.int .i64 op, .int .i64 0, .int .i64 s1, .int .i64 s2, .int .i64 im] 64)).alloc (.cells #[.slice none 0 0, .int .u32 0, .slice none 0 0, .slice none 0 0, .slice none 0 0, .slice none 0 0, .int .u32 0, .int .i64 0] 32)) := ((((Below.refl _ _).alloc (Nat.le_refl _) _).alloc (by simp) _).alloc (by simp; omega) _).alloc (by simp; omega) _
  have hCb : ((((w.alloc (.cells #[.slice ma mn mc', .int .i64 md, .int .i64 mb] 25)).alloc (.cells #[.slice (some ⟨g, off, none⟩) 32 y1, .int .u32 c.pc, .slice x2 n2 y2, .slice x3 n3 y3, .slice x4 n4 y4, .slice x5 n5 y5, .int .u32 c.low, .int .i64 c.st] 32)).alloc (.cells #[.int .i64 op, .int .i64 0, .int .i64 s1, .int .i64 s2, .int .i64 im] 64)).alloc (.cells #[.slice none 0 0, .int .u32 0, .slice none 0 0, .slice none 0 0, .slice none 0 0, .slice none 0 0, .int .u32 0, .int .i64 0] 32)).heap[w.heap.size + 1]? = some (.cells #[.slice (some ⟨g, off, none⟩) 32 y1, .int .u32 c.pc, .slice x2 n2 y2, .slice x3 n3 y3, .slice x4 n4 y4, .slice x5 n5 y5, .int .u32 c.low, .int .i64 c.st] 32) := by
    rw [Below.heap_alloc _ _ _ (by simp), Below.heap_alloc _ _ _ (by simp)]
    have := heap_alloc_new (w.alloc (.cells #[.slice ma mn mc', .int .i64 md, .int .i64 mb] 25)) (.cells #[.slice (some ⟨g, off, none⟩) 32 y1, .int .u32 c.pc, .slice x2 n2 y2, .slice x3 n3 y3, .slice x4 n4 y4, .slice x5 n5 y5, .int .u32 c.low, .int .i64 c.st] 32)
    simpa only [World.size_alloc] using this
  have hI := h.boxed A4 hCb (by omega)
  obtain ⟨rv, d, s, i, o, hb, hr, hd, hs, hi, ho, hk, hL, hnd⟩ := id hI
  obtain rfl := Option.some.inj (hb.c0.symm.trans (Bx.of_heap hCb).c0)
  have hR := row_of hr hG.r32
  have cs1 := hR.cell s1 (by have := hG.r32; omega)
  have cs2 := hR.cell s2 (by have := hG.r32; omega)
  have hgw : g < w.heap.size := h.lt g hbk
  have e1 : ¬ g = w.heap.size := by omega
  have e2 : ¬ g = w.heap.size + 1 := by omega
  have e3 : ¬ g = w.heap.size + 1 + 1 := by omega
  have e4 : ¬ g = w.heap.size + 1 + 1 + 1 := by omega
  have o1 : ¬ op = 10 := by omega
  have o2 : ¬ op = 11 := by omega
  have o3 : ¬ op = 34 := by omega
  have o5 : ¬ op = 3 := by omega
  have o4 : (op == 10 || op == 11) = false := by simp [o1, o2]
  have HI : Hid _ := hA
  clear hA
  have HX : Hid _ := And.intro h (And.intro A4 (And.intro hI (Bx.of_heap hCb)))
  clear hb hr hR hd hs hi ho hk hL hnd h A4 hCb hI hbk
  generalize hx1 : c.regs.getD s1 0 = a at *
  generalize hx2 : c.regs.getD s2 0 = b at *
  go_enter Try.func62, Try.ntmps62
  go_wp2_with (first | (go_at_call 53; refine (shapeI op _ (.inr (.inr hop))).mono ?_; rintro e w1 ⟨rfl, rfl⟩) | (go_at_call 82; refine (HI.out.2.2 _).mono ?_; rintro e w2 ⟨rfl, rfl⟩))
  refine bodyPost_ret (v := .agg #[.slice (some ⟨g, off, none⟩) 32 y1, .int .u32 ((c.pc + 4) % 4294967296), .slice x2 n2 y2, .slice x3 n3 y3, .slice x4 n4 y4, .slice x5 n5 y5, .int .u32 c.low, .int .i64 c.st])
    (by simp [results, Try.results62, go_sem]) rfl ?_
  obtain ⟨hv, A4, hI, hb⟩ := HX.out
  have B4 := fun o1 o2 o3 o4 => ((((Below.refl w.heap.size w).alloc (Nat.le_refl _) o1).alloc (by simp) o2).alloc (by simp; omega) o3).alloc (by simp; omega) o4
  refine ⟨_, rfl, ?_, Below.tcs (B4 _ _ _ _)⟩
  rw [setR_zero]
  exact (hv.pc _).below (B4 _ _ _ _)


set_option maxRecDepth 8000 in
set_option maxHeartbeats 1000000 in
theorem doH0 (ma : Option Addr) (mn mc' : Nat) (md mb : Int) (v : Value) (L : List Nat) (c : Mc) (op r : Int) (s1 s2 : Nat) (im : Int) (w : World) (hG : Good c) (h : CpuV w v L c) (hop : 18 ≤ op ∧ op ≤ 20) (h1 : s1 < 32) (h2 : s2 < 32)
    (hA : AluIs op (c.regs.getD s1 0) (im % 4294967296) r) :
    Calls Try.prog 62 #[.agg #[.slice ma mn mc', .int .i64 md, .int .i64 mb], v, .agg #[.int .i64 op, .int .i64 0, .int .i64 s1, .int .i64 s2, .int .i64 im]] w fun e w' =>
      ∃ u, e = .returned u ∧ CpuV w' u L { setR c 0 (r) with pc := (c.pc + 4) % 4294967296 } ∧ Tcs (fun g => g ∈ L) w w' := by
  obtain ⟨g, off, y1, n2, n3, n4, n5, x2, y2, x3, y3, x4, y4, x5, y5, rfl, hbk⟩ := h.shape32 hG.r32
  have A4 : Below w.heap.size w ((((w.alloc (.cells #[.slice ma mn mc', .int .i64 md, .int .i64 mb] 25)).alloc (.cells #[.slice (some ⟨g, off, none⟩) 32 y1, .int .u32 c.pc, .slice x2 n2 y2, .slice x3 n3 y3, .slice x4 n4 y4, .slice x5 n5 y5, .int .u32 c.low, .int .i64 c.st] 32)).alloc (.cells #[.int .i64 op, .int .i64 0, .int .i64 s1, .int .i64 s2, .int .i64 im] 64)).alloc (.cells #[.slice none 0 0, .int .u32 0, .slice none 0 0, .slice none 0 0, .slice none 0 0, .slice none 0 0, .int .u32 0, .int .i64 0] 32)) := ((((Below.refl _ _).alloc (Nat.le_refl _) _).alloc (by simp) _).alloc (by simp; omega) _).alloc (by simp; omega) _
  have hCb : ((((w.alloc (.cells #[.slice ma mn mc', .int .i64 md, .int .i64 mb] 25)).alloc (.cells #[.slice (some ⟨g, off, none⟩) 32 y1, .int .u32 c.pc, .slice x2 n2 y2, .slice x3 n3 y3, .slice x4 n4 y4, .slice x5 n5 y5, .int .u32 c.low, .int .i64 c.st] 32)).alloc (.cells #[.int .i64 op, .int .i64 0, .int .i64 s1, .int .i64 s2, .int .i64 im] 64)).alloc (.cells #[.slice none 0 0, .int .u32 0, .slice none 0 0, .slice none 0 0, .slice none 0 0, .slice none 0 0, .int .u32 0, .int .i64 0] 32)).heap[w.heap.size + 1]? = some (.cells #[.slice (some ⟨g, off, none⟩) 32 y1, .int .u32 c.pc, .slice x2 n2 y2, .slice x3 n3 y3, .slice x4 n4 y4, .slice x5 n5 y5, .int .u32 c.low, .int .i64 c.st] 32) := by
    rw [Below.heap_alloc _ _ _ (by simp), Below.heap_alloc _ _ _ (by simp)]
    have := heap_alloc_new (w.alloc (.cells #[.slice ma mn mc', .int .i64 md, .int .i64 mb] 25)) (.cells #[.slice (some ⟨g, off, none⟩) 32 y1, .int .u32 c.pc, .slice x2 n2 y2, .slice x3 n3 y3, .slice x4 n4 y4, .slice x5 n5 y5, .int .u32 c.low, .int .i64 c.st] 32)
    simpa only [World.size_alloc] using this
  have hI := h.boxed A4 hCb (by omega)
  obtain ⟨rv, d, s, i, o, hb, hr, hd, hs, hi, ho, hk, hL, hnd⟩ := id hI
  obtain rfl := Option.some.inj (hb.c0.symm.trans (Bx.of_heap hCb).c0)
  have hR := row_of hr hG.r32
  have cs1 := hR.cell s1 (by have := hG.r32; omega)
  have cs2 := hR.cell s2 (by have := hG.r32; omega)
  have hgw : g < w.heap.size := h.lt g hbk
  have e1 : ¬ g = w.heap.size := by omega
  have e2 : ¬ g = w.heap.size + 1 := by omega
  have e3 : ¬ g = w.heap.size + 1 + 1 := by omega
  have e4 : ¬ g = w.heap.size + 1 + 1 + 1 := by omega
  have o1 : ¬ op = 10 := by omega
  have o2 : ¬ op = 11 := by omega
  have o3 : ¬ op = 34 := by omega
  have o5 : ¬ op = 3 := by omega
  have o4 : (op == 10 || op == 11) = false := by simp [o1, o2]
  have HI : Hid _ := hA
  clear hA
  have HX : Hid _ := And.intro h (And.intro A4 (And.intro hI (Bx.of_heap hCb)))
  clear hb hr hR hd hs hi ho hk hL hnd h A4 hCb hI hbk
  generalize hx1 : c.regs.getD s1 0 = a at *
  generalize hx2 : c.regs.getD s2 0 = b at *
  go_enter Try.func62, Try.ntmps62
  go_wp2_with (first | (go_at_call 53; refine (shapeH op _ hop).mono ?_; rintro e w1 ⟨rfl, rfl⟩) | (go_at_call 82; refine (HI.out.2.2 _).mono ?_; rintro e w2 ⟨rfl, rfl⟩))
  refine bodyPost_ret (v := .agg #[.slice (some ⟨g, off, none⟩) 32 y1, .int .u32 ((c.pc + 4) % 4294967296), .slice x2 n2 y2, .slice x3 n3 y3, .slice x4 n4 y4, .slice x5 n5 y5, .int .u32 c.low, .int .i64 c.st])
    (by simp [results, Try.results62, go_sem]) rfl ?_
  obtain ⟨hv, A4, hI, hb⟩ := HX.out
  have B4 := fun o1 o2 o3 o4 => ((((Below.refl w.heap.size w).alloc (Nat.le_refl _) o1).alloc (by simp) o2).alloc (by simp; omega) o3).alloc (by simp; omega) o4
  refine ⟨_, rfl, ?_, Below.tcs (B4 _ _ _ _)⟩
  rw [setR_zero]
  exact (hv.pc _).below (B4 _ _ _ _)

end Go.Proofs.Ytabjcodpagjbjaa

namespace Go.Proofs.Ytabjcodpagjbjaa
open Go.RowKit
set_option linter.unusedVariables false
set_option linter.unusedSimpArgs false

set_option maxRecDepth 8000 in
set_option maxHeartbeats 1000000 in
theorem doU1 (ma : Option Addr) (mn mc' : Nat) (md mb : Int) (v : Value) (L : List Nat) (c : Mc)  (rd s1 s2 : Nat) (im : Int) (w : World) (hG : Good c) (h : CpuV w v L c)  (h0 : 0 < rd) (hrd : rd < 32) (h1 : s1 < 32) (h2 : s2 < 32)
     :
    Calls Try.prog 62 #[.agg #[.slice ma mn mc', .int .i64 md, .int .i64 mb], v, .agg #[.int .i64 1, .int .i64 rd, .int .i64 s1, .int .i64 s2, .int .i64 im]] w fun e w' =>
      ∃ u, e = .returned u ∧ CpuV w' u L { setR c rd (im % 4294967296 * 4096 % 4294967296) with pc := (c.pc + 4) % 4294967296 } ∧ Tcs (fun g => g ∈ L) w w' := by
  obtain ⟨g, off, y1, n2, n3, n4, n5, x2, y2, x3, y3, x4, y4, x5, y5, rfl, hbk⟩ := h.shape32 hG.r32
  have A4 : Below w.heap.size w ((((w.alloc (.cells #[.slice ma mn mc', .int .i64 md, .int .i64 mb] 25)).alloc (.cells #[.slice (some ⟨g, off, none⟩) 32 y1, .int .u32 c.pc, .slice x2 n2 y2, .slice x3 n3 y3, .slice x4 n4 y4, .slice x5 n5 y5, .int .u32 c.low, .int .i64 c.st] 32)).alloc (.cells #[.int .i64 1, .int .i64 rd, .int .i64 s1, .int .i64 s2, .int .i64 im] 64)).alloc (.cells #[.slice none 0 0, .int .u32 0, .slice none 0 0, .slice none 0 0, .slice none 0 0, .slice none 0 0, .int .u32 0, .int .i64 0] 32)) := ((((Below.refl _ _).alloc (Nat.le_refl _) _).alloc (by simp) _).alloc (by simp; omega) _).alloc (by simp; omega) _
  have hCb : ((((w.alloc (.cells #[.slice ma mn mc', .int .i64 md, .int .i64 mb] 25)).alloc (.cells #[.slice (some ⟨g, off, none⟩) 32 y1, .int .u32 c.pc, .slice x2 n2 y2, .slice x3 n3 y3, .slice x4 n4 y4, .slice x5 n5 y5, .int .u32 c.low, .int .i64 c.st] 32)).alloc (.cells #[.int .i64 1, .int .i64 rd, .int .i64 s1, .int .i64 s2, .int .i64 im] 64)).alloc (.cells #[.slice none 0 0, .int .u32 0, .slice none 0 0, .slice none 0 0, .slice none 0 0, .slice none 0 0, .int .u32 0, .int .i64 0] 32)).heap[w.heap.size + 1]? = some (.cells #[.slice (some ⟨g, off, none⟩) 32 y1, .int .u32 c.pc, .slice x2 n2 y2, .slice x3 n3 y3, .slice x4 n4 y4, .slice x5 n5 y5, .int .u32 c.low, .int .i64 c.st] 32) := by
    rw [Below.heap_alloc _ _ _ (by simp), Below.heap_alloc _ _ _ (by simp)]
    have := heap_alloc_new (w.alloc (.cells #[.slice ma mn mc', .int .i64 md, .int .i64 mb] 25)) (.cells #[.slice (some ⟨g, off, none⟩) 32 y1, .int .u32 c.pc, .slice x2 n2 y2, .slice x3 n3 y3, .slice x4 n4 y4, .slice x5 n5 y5, .int .u32 c.low, .int .i64 c.st] 32)
    simpa only [World.size_alloc] using this
  have hI := h.boxed A4 hCb (by omega)
  obtain ⟨rv, d, s, i, o, hb, hr, hd, hs, hi, ho, hk, hL, hnd⟩ := id hI
  obtain rfl := Option.some.inj (hb.c0.symm.trans (Bx.of_heap hCb).c0)
  have hR := row_of hr hG.r32
  have cs1 := hR.cell s1 (by have := hG.r32; omega)
  have cs2 := hR.cell s2 (by have := hG.r32; omega)
  have hgw : g < w.heap.size := h.lt g hbk
  have e1 : ¬ g = w.heap.size := by omega
  have e2 : ¬ g = w.heap.size + 1 := by omega
  have e3 : ¬ g = w.heap.size + 1 + 1 := by omega
  have e4 : ¬ g = w.heap.size + 1 + 1 + 1 := by omega
  have cR := hR.cell rd (by have := hG.r32; omega)
  have fR := hR.froz (off + rd)
  have h0' : (0 : Int) < (rd : Int) := by omega
  have HX : Hid _ := And.intro h (And.intro A4 (And.intro hI (Bx.of_heap hCb)))
  clear hb hr hR hd hs hi ho hk hL hnd h A4 hCb hI hbk
  generalize hx1 : c.regs.getD s1 0 = a at *
  generalize hx2 : c.regs.getD s2 0 = b at *
  go_enter Try.func62, Try.ntmps62
  go_wp2_with (go_at_call 53; refine (shapeU 1 _ rfl).mono ?_; rintro e w1 ⟨rfl, rfl⟩)
  refine bodyPost_ret (v := .agg #[.slice (some ⟨g, off, none⟩) 32 y1, .int .u32 ((c.pc + 4) % 4294967296), .slice x2 n2 y2, .slice x3 n3 y3, .slice x4 n4 y4, .slice x5 n5 y5, .int .u32 c.low, .int .i64 c.st])
    (by simp [results, Try.results62, go_sem]) rfl ?_
  obtain ⟨hv, A4, hI, hb⟩ := HX.out
  have hl := hv.lt
  obtain ⟨k0, hgL⟩ := hI.set (v := im % 4294967296 * 4096 % 4294967296) hb hG.r32 hrd h0
  have b0 := hb.other (p := ⟨g, off + rd, none⟩) (fun e => e2 e.symm) (.int .u32 (im % 4294967296 * 4096 % 4294967296))
  have k1 := k0.pc ((c.pc + 4) % 4294967296)
  have b1 := b0.s1 (.int .u32 ((c.pc + 4) % 4294967296))
  have hgL' : g ∈ L := by
    rw [List.mem_cons] at hgL
    exact hgL.resolve_left e2
  have hv2 := CpuIn.giveBack (w := w) (R := w.heap.size + 1 + 1 + 1) k1 b1 ((Tcs.refl (fun k => k = w.heap.size + 1 + 1 + 1) _).set8 _ rfl (.slice (some ⟨g, off, none⟩) 32 y1) (.int .u32 ((c.pc + 4) % 4294967296)) (.slice x2 n2 y2) (.slice x3 n3 y3) (.slice x4 n4 y4) (.slice x5 n5 y5) (.int .u32 c.low) (.int .i64 c.st)) (by omega) hl
  refine ⟨_, rfl, ?_, ?_⟩
  · dsimp only at hv2 ⊢
    rw [setR_low, setR_st] at hv2 ⊢
    exact hv2
  · exact ((((Below.tcs (S := fun x => x ∈ L) A4)).setCell (p := ⟨g, off + rd, none⟩) hgL' _).setNew (p := ⟨w.heap.size + 1, 1, none⟩) (by dsimp only; omega) _).new8 _ (by omega) _ _ _ _ _ _ _ _


set_option maxRecDepth 8000 in
set_option maxHeartbeats 1000000 in
theorem doJ1 (ma : Option Addr) (mn mc' : Nat) (md mb : Int) (v : Value) (L : List Nat) (c : Mc)  (rd s1 s2 : Nat) (im : Int) (w : World) (hG : Good c) (h : CpuV w v L c)  (h0 : 0 < rd) (hrd : rd < 32) (h1 : s1 < 32) (h2 : s2 < 32)
     :
    Calls Try.prog 62 #[.agg #[.slice ma mn mc', .int .i64 md, .int .i64 mb], v, .agg #[.int .i64 2, .int .i64 rd, .int .i64 s1, .int .i64 s2, .int .i64 im]] w fun e w' =>
      ∃ u, e = .returned u ∧ CpuV w' u L { setR c rd ((c.pc + 4) % 4294967296) with pc := (c.pc + im) % 4294967296 } ∧ Tcs (fun g => g ∈ L) w w' := by
  obtain ⟨g, off, y1, n2, n3, n4, n5, x2, y2, x3, y3, x4, y4, x5, y5, rfl, hbk⟩ := h.shape32 hG.r32
  have A4 : Below w.heap.size w ((((w.alloc (.cells #[.slice ma mn mc', .int .i64 md, .int .i64 mb] 25)).alloc (.cells #[.slice (some ⟨g, off, none⟩) 32 y1, .int .u32 c.pc, .slice x2 n2 y2, .slice x3 n3 y3, .slice x4 n4 y4, .slice x5 n5 y5, .int .u32 c.low, .int .i64 c.st] 32)).alloc (.cells #[.int .i64 2, .int .i64 rd, .int .i64 s1, .int .i64 s2, .int .i64 im] 64)).alloc (.cells #[.slice none 0 0, .int .u32 0, .slice none 0 0, .slice none 0 0, .slice none 0 0, .slice none 0 0, .int .u32 0, .int .i64 0] 32)) := ((((Below.refl _ _).alloc (Nat.le_refl _) _).alloc (by simp) _).alloc (by simp; omega) _).alloc (by simp; omega) _
  have hCb : ((((w.alloc (.cells #[.slice ma mn mc', .int .i64 md, .int .i64 mb] 25)).alloc (.cells #[.slice (some ⟨g, off, none⟩) 32 y1, .int .u32 c.pc, .slice x2 n2 y2, .slice x3 n3 y3, .slice x4 n4 y4, .slice x5 n5 y5, .int .u32 c.low, .int .i64 c.st] 32)).alloc (.cells #[.int .i64 2, .int .i64 rd, .int .i64 s1, .int .i64 s2, .int .i64 im] 64)).alloc (.cells #[.slice none 0 0, .int .u32 0, .slice none 0 0, .slice none 0 0, .slice none 0 0, .slice none 0 0, .int .u32 0, .int .i64 0] 32)).heap[w.heap.size + 1]? = some (.cells #[.slice (some ⟨g, off, none⟩) 32 y1, .int .u32 c.pc, .slice x2 n2 y2, .slice x3 n3 y3, .slice x4 n4 y4, .slice x5 n5 y5, .int .u32 c.low, .int .i64 c.st] 32) := by
    rw [Below.heap_alloc _ _ _ (by simp), Below.heap_alloc _ _ _ (by simp)]
    have := heap_alloc_new (w.alloc (.cells #[.slice ma mn mc', .int .i64 md, .int .i64 mb] 25)) (.cells #[.slice (some ⟨g, off, none⟩) 32 y1, .int .u32 c.pc, .slice x2 n2 y2, .slice x3 n3 y3, .slice x4 n4 y4, .slice x5 n5 y5, .int .u32 c.low, .int .i64 c.st] 32)
    simpa only [World.size_alloc] using this
  have hI := h.boxed A4 hCb (by omega)
  obtain ⟨rv, d, s, i, o, hb, hr, hd, hs, hi, ho, hk, hL, hnd⟩ := id hI
  obtain rfl := Option.some.inj (hb.c0.symm.trans (Bx.of_heap hCb).c0)
  have hR := row_of hr hG.r32
  have cs1 := hR.cell s1 (by have := hG.r32; omega)
  have cs2 := hR.cell s2 (by have := hG.r32; omega)
  have hgw : g < w.heap.size := h.lt g hbk
  have e1 : ¬ g = w.heap.size := by omega
  have e2 : ¬ g = w.heap.size + 1 := by omega
  have e3 : ¬ g = w.heap.size + 1 + 1 := by omega
  have e4 : ¬ g = w.heap.size + 1 + 1 + 1 := by omega
  have cR := hR.cell rd (by have := hG.r32; omega)
  have fR := hR.froz (off + rd)
  have h0' : (0 : Int) < (rd : Int) := by omega
  have HX : Hid _ := And.intro h (And.intro A4 (And.intro hI (Bx.of_heap hCb)))
  clear hb hr hR hd hs hi ho hk hL hnd h A4 hCb hI hbk
  generalize hx1 : c.regs.getD s1 0 = a at *
  generalize hx2 : c.regs.getD s2 0 = b at *
  go_enter Try.func62, Try.ntmps62
  go_wp2_with (go_at_call 53; refine (shapeJ 2 _ rfl).mono ?_; rintro e w1 ⟨rfl, rfl⟩)
  refine bodyPost_ret (v := .agg #[.slice (some ⟨g, off, none⟩) 32 y1, .int .u32 ((c.pc + im) % 4294967296), .slice x2 n2 y2, .slice x3 n3 y3, .slice x4 n4 y4, .slice x5 n5 y5, .int .u32 c.low, .int .i64 c.st])
    (by simp [results, Try.results62, go_sem]) rfl ?_
  obtain ⟨hv, A4, hI, hb⟩ := HX.out
  have hl := hv.lt
  obtain ⟨k0, hgL⟩ := hI.set (v := (c.pc + 4) % 4294967296) hb hG.r32 hrd h0
  have b0 := hb.other (p := ⟨g, off + rd, none⟩) (fun e => e2 e.symm) (.int .u32 ((c.pc + 4) % 4294967296))
  have k1 := k0.pc ((c.pc + im) % 4294967296)
  have b1 := b0.s1 (.int .u32 ((c.pc + im) % 4294967296))
  have hgL' : g ∈ L := by
    rw [List.mem_cons] at hgL
    exact hgL.resolve_left e2
  have hv2 := CpuIn.giveBack (w := w) (R := w.heap.size + 1 + 1 + 1) k1 b1 ((Tcs.refl (fun k => k = w.heap.size + 1 + 1 + 1) _).set8 _ rfl (.slice (some ⟨g, off, none⟩) 32 y1) (.int .u32 ((c.pc + im) % 4294967296)) (.slice x2 n2 y2) (.slice x3 n3 y3) (.slice x4 n4 y4) (.slice x5 n5 y5) (.int .u32 c.low) (.int .i64 c.st)) (by omega) hl
  refine ⟨_, rfl, ?_, ?_⟩
  · dsimp only at hv2 ⊢
    rw [setR_low, setR_st] at hv2 ⊢
    exact hv2
  · exact ((((Below.tcs (S := fun x => x ∈ L) A4)).setCell (p := ⟨g, off + rd, none⟩) hgL' _).setNew (p := ⟨w.heap.size + 1, 1, none⟩) (by dsimp only; omega) _).new8 _ (by omega) _ _ _ _ _ _ _ _


set_option maxRecDepth 8000 in
set_option maxHeartbeats 1000000 in
theorem doJr1 (ma : Option Addr) (mn mc' : Nat) (md mb : Int) (v : Value) (L : List Nat) (c : Mc)  (rd s1 s2 : Nat) (im : Int) (w : World) (hG : Good c) (h : CpuV w v L c)  (h0 : 0 < rd) (hrd : rd < 32) (h1 : s1 < 32) (h2 : s2 < 32)
     :
    Calls Try.prog 62 #[.agg #[.slice ma mn mc', .int .i64 md, .int .i64 mb], v, .agg #[.int .i64 3, .int .i64 rd, .int .i64 s1, .int .i64 s2, .int .i64 im]] w fun e w' =>
      ∃ u, e = .returned u ∧ CpuV w' u L { setR c rd ((c.pc + 4) % 4294967296) with pc := (c.regs.getD s1 0 + im) % 4294967296 / 2 * 2 } ∧ Tcs (fun g => g ∈ L) w w' := by
  obtain ⟨g, off, y1, n2, n3, n4, n5, x2, y2, x3, y3, x4, y4, x5, y5, rfl, hbk⟩ := h.shape32 hG.r32
  have A4 : Below w.heap.size w ((((w.alloc (.cells #[.slice ma mn mc', .int .i64 md, .int .i64 mb] 25)).alloc (.cells #[.slice (some ⟨g, off, none⟩) 32 y1, .int .u32 c.pc, .slice x2 n2 y2, .slice x3 n3 y3, .slice x4 n4 y4, .slice x5 n5 y5, .int .u32 c.low, .int .i64 c.st] 32)).alloc (.cells #[.int .i64 3, .int .i64 rd, .int .i64 s1, .int .i64 s2, .int .i64 im] 64)).alloc (.cells #[.slice none 0 0, .int .u32 0, .slice none 0 0, .slice none 0 0, .slice none 0 0, .slice none 0 0, .int .u32 0, .int .i64 0] 32)) := ((((Below.refl _ _).alloc (Nat.le_refl _) _).alloc (by simp) _).alloc (by simp; omega) _).alloc (by simp; omega) _
  have hCb : ((((w.alloc (.cells #[.slice ma mn mc', .int .i64 md, .int .i64 mb] 25)).alloc (.cells #[.slice (some ⟨g, off, none⟩) 32 y1, .int .u32 c.pc, .slice x2 n2 y2, .slice x3 n3 y3, .slice x4 n4 y4, .slice x5 n5 y5, .int .u32 c.low, .int .i64 c.st] 32)).alloc (.cells #[.int .i64 3, .int .i64 rd, .int .i64 s1, .int .i64 s2, .int .i64 im] 64)).alloc (.cells #[.slice none 0 0, .int .u32 0, .slice none 0 0, .slice none 0 0, .slice none 0 0, .slice none 0 0, .int .u32 0, .int .i64 0] 32)).heap[w.heap.size + 1]? = some (.cells #[.slice (some ⟨g, off, none⟩) 32 y1, .int .u32 c.pc, .slice x2 n2 y2, .slice x3 n3 y3, .slice x4 n4 y4, .slice x5 n5 y5, .int .u32 c.low, .int .i64 c.st] 32) := by
    rw [Below.heap_alloc _ _ _ (by simp), Below.heap_alloc _ _ _ (by simp)]
    have := heap_alloc_new (w.alloc (.cells #[.slice ma mn mc', .int .i64 md, .int .i64 mb] 25)) (.cells #[.slice (some ⟨g, off, none⟩) 32 y1, .int .u32 c.pc, .slice x2 n2 y2, .slice x3 n3 y3, .slice x4 n4 y4, .slice x5 n5 y5, .int .u32 c.low, .int .i64 c.st] 32)
    simpa only [World.size_alloc] using this
  have hI := h.boxed A4 hCb (by omega)
  obtain ⟨rv, d, s, i, o, hb, hr, hd, hs, hi, ho, hk, hL, hnd⟩ := id hI
  obtain rfl := Option.some.inj (hb.c0.symm.trans (Bx.of_heap hCb).c0)
  have hR := row_of hr hG.r32
  have cs1 := hR.cell s1 (by have := hG.r32; omega)
  have cs2 := hR.cell s2 (by have := hG.r32; omega)
  have hgw : g < w.heap.size := h.lt g hbk
  have e1 : ¬ g = w.heap.size := by omega
  have e2 : ¬ g = w.heap.size + 1 := by omega
  have e3 : ¬ g = w.heap.size + 1 + 1 := by omega
  have e4 : ¬ g = w.heap.size + 1 + 1 + 1 := by omega
  have cR := hR.cell rd (by have := hG.r32; omega)
  have fR := hR.froz (off + rd)
  have h0' : (0 : Int) < (rd : Int) := by omega
  have HX : Hid _ := And.intro h (And.intro A4 (And.intro hI (Bx.of_heap hCb)))
  clear hb hr hR hd hs hi ho hk hL hnd h A4 hCb hI hbk
  generalize hx1 : c.regs.getD s1 0 = a at *
  generalize hx2 : c.regs.getD s2 0 = b at *
  go_enter Try.func62, Try.ntmps62
  go_wp2_with (go_at_call 53; refine (shapeI 3 _ (.inl rfl)).mono ?_; rintro e w1 ⟨rfl, rfl⟩)
  refine bodyPost_ret (v := .agg #[.slice (some ⟨g, off, none⟩) 32 y1, .int .u32 ((a + im) % 4294967296 / 2 * 2), .slice x2 n2 y2, .slice x3 n3 y3, .slice x4 n4 y4, .slice x5 n5 y5, .int .u32 c.low, .int .i64 c.st])
    (by simp [results, Try.results62, go_sem]) rfl ?_
  obtain ⟨hv, A4, hI, hb⟩ := HX.out
  have hl := hv.lt
  obtain ⟨k0, hgL⟩ := hI.set (v := (c.pc + 4) % 4294967296) hb hG.r32 hrd h0
  have b0 := hb.other (p := ⟨g, off + rd, none⟩) (fun e => e2 e.symm) (.int .u32 ((c.pc + 4) % 4294967296))
  have k1 := k0.pc ((a + im) % 4294967296 / 2 * 2)
  have b1 := b0.s1 (.int .u32 ((a + im) % 4294967296 / 2 * 2))
  have hgL' : g ∈ L := by
    rw [List.mem_cons] at hgL
    exact hgL.resolve_left e2
  have hv2 := CpuIn.giveBack (w := w) (R := w.heap.size + 1 + 1 + 1) k1 b1 ((Tcs.refl (fun k => k = w.heap.size + 1 + 1 + 1) _).set8 _ rfl (.slice (some ⟨g, off, none⟩) 32 y1) (.int .u32 ((a + im) % 4294967296 / 2 * 2)) (.slice x2 n2 y2) (.slice x3 n3 y3) (.slice x4 n4 y4) (.slice x5 n5 y5) (.int .u32 c.low) (.int .i64 c.st)) (by omega) hl
  refine ⟨_, rfl, ?_, ?_⟩
  · dsimp only at hv2 ⊢
    rw [setR_low, setR_st] at hv2 ⊢
    exact hv2
  · exact ((((Below.tcs (S := fun x => x ∈ L) A4)).setCell (p := ⟨g, off + rd, none⟩) hgL' _).setNew (p := ⟨w.heap.size + 1, 1, none⟩) (by dsimp only; omega) _).new8 _ (by omega) _ _ _ _ _ _ _ _


set_option maxRecDepth 8000 in
set_option maxHeartbeats 1000000 in
theorem doU0 (ma : Option Addr) (mn mc' : Nat) (md mb : Int) (v : Value) (L : List Nat) (c : Mc)  (s1 s2 : Nat) (im : Int) (w : World) (hG : Good c) (h : CpuV w v L c)  (h1 : s1 < 32) (h2 : s2 < 32)
     :
    Calls Try.prog 62 #[.agg #[.slice ma mn mc', .int .i64 md, .int .i64 mb], v, .agg #[.int .i64 1, .int .i64 0, .int .i64 s1, .int .i64 s2, .int .i64 im]] w fun e w' =>
      ∃ u, e = .returned u ∧ CpuV w' u L { setR c 0 (im % 4294967296 * 4096 % 4294967296) with pc := (c.pc + 4) % 4294967296 } ∧ Tcs (fun g => g ∈ L) w w' := by
  obtain ⟨g, off, y1, n2, n3, n4, n5, x2, y2, x3, y3, x4, y4, x5, y5, rfl, hbk⟩ := h.shape32 hG.r32
  have A4 : Below w.heap.size w ((((w.alloc (.cells #[.slice ma mn mc', .int .i64 md, .int .i64 mb] 25)).alloc (.cells #[.slice (some ⟨g, off, none⟩) 32 y1, .int .u32 c.pc, .slice x2 n2 y2, .slice x3 n3 y3, .slice x4 n4 y4, .slice x5 n5 y5, .int .u32 c.low, .int .i64 c.st] 32)).alloc (.cells #[.int .i64 1, .int .i64 0, .int .i64 s1, .int .i64 s2, .int .i64 im] 64)).alloc (.cells #[.slice none 0 0, .int .u32 0, .slice none 0 0, .slice none 0 0, .slice none 0 0, .slice none 0 0, .int .u32 0, .int .i64 0] 32)) := ((((Below.refl _ _).alloc (Nat.le_refl _) _).alloc (by simp) _).alloc (by simp; omega) _).alloc (by simp; omega) _
  have hCb : ((((w.alloc (.cells #[.slice ma mn mc', .int .i64 md, .int .i64 mb] 25)).alloc (.cells #[.slice (some ⟨g, off, none⟩) 32 y1, .int .u32 c.pc, .slice x2 n2 y2, .slice x3 n3 y3, .slice x4 n4 y4, .slice x5 n5 y5, .int .u32 c.low, .int .i64 c.st] 32)).alloc (.cells #[.int .i64 1, .int .i64 0, .int .i64 s1, .int .i64 s2, .int .i64 im] 64)).alloc (.cells #[.slice none 0 0, .int .u32 0, .slice none 0 0, .slice none 0 0, .slice none 0 0, .slice none 0 0, .int .u32 0, .int .i64 0] 32)).heap[w.heap.size + 1]? = some (.cells #[.slice (some ⟨g, off, none⟩) 32 y1, .int .u32 c.pc, .slice x2 n2 y2, .slice x3 n3 y3, .slice x4 n4 y4, .slice x5 n5 y5, .int .u32 c.low, .int .i64 c.st] 32) := by
    rw [Below.heap_alloc _ _ _ (by simp), Below.heap_alloc _ _ _ (by simp)]
    have := heap_alloc_new (w.alloc (.cells #[.slice ma mn mc', .int .i64 md, .int .i64 mb] 25)) (.cells #[.slice (some ⟨g, off, none⟩) 32 y1, .int .u32 c.pc, .slice x2 n2 y2, .slice x3 n3 y3, .slice x4 n4 y4, .slice x5 n5 y5, .int .u32 c.low, .int .i64 c.st] 32)
    simpa only [World.size_alloc] using this
  have hI := h.boxed A4 hCb (by omega)
  obtain ⟨rv, d, s, i, o, hb, hr, hd, hs, hi, ho, hk, hL, hnd⟩ := id hI
  obtain rfl := Option.some.inj (hb.c0.symm.trans (Bx.of_heap hCb).c0)
  have hR := row_of hr hG.r32
  have cs1 := hR.cell s1 (by have := hG.r32; omega)
  have cs2 := hR.cell s2 (by have := hG.r32; omega)
  have hgw : g < w.heap.size := h.lt g hbk
  have e1 : ¬ g = w.heap.size := by omega
  have e2 : ¬ g = w.heap.size + 1 := by omega
  have e3 : ¬ g = w.heap.size + 1 + 1 := by omega
  have e4 : ¬ g = w.heap.size + 1 + 1 + 1 := by omega
  have HX : Hid _ := And.intro h (And.intro A4 (And.intro hI (Bx.of_heap hCb)))
  clear hb hr hR hd hs hi ho hk hL hnd h A4 hCb hI hbk
  generalize hx1 : c.regs.getD s1 0 = a at *
  generalize hx2 : c.regs.getD s2 0 = b at *
  go_enter Try.func62, Try.ntmps62
  go_wp2_with (go_at_call 53; refine (shapeU 1 _ rfl).mono ?_; rintro e w1 ⟨rfl, rfl⟩)
  refine bodyPost_ret (v := .agg #[.slice (some ⟨g, off, none⟩) 32 y1, .int .u32 ((c.pc + 4) % 4294967296), .slice x2 n2 y2, .slice x3 n3 y3, .slice x4 n4 y4, .slice x5 n5 y5, .int .u32 c.low, .int .i64 c.st])
    (by simp [results, Try.results62, go_sem]) rfl ?_
  obtain ⟨hv, A4, hI, hb⟩ := HX.out
  have B4 := fun o1 o2 o3 o4 => ((((Below.refl w.heap.size w).alloc (Nat.le_refl _) o1).alloc (by simp) o2).alloc (by simp; omega) o3).alloc (by simp; omega) o4
  refine ⟨_, rfl, ?_, Below.tcs (B4 _ _ _ _)⟩
  rw [setR_zero]
  exact (hv.pc _).below (B4 _ _ _ _)


set_option maxRecDepth 8000 in
set_option maxHeartbeats 1000000 in
theorem doJ0 (ma : Option Addr) (mn mc' : Nat) (md mb : Int) (v : Value) (L : List Nat) (c : Mc)  (s1 s2 : Nat) (im : Int) (w : World) (hG : Good c) (h : CpuV w v L c)  (h1 : s1 < 32) (h2 : s2 < 32)
     :
    Calls Try.prog 62 #[.agg #[.slice ma mn mc', .int .i64 md, .int .i64 mb], v, .agg #[.int .i64 2, .int .i64 0, .int .i64 s1, .int .i64 s2, .int .i64 im]] w fun e w' =>
      ∃ u, e = .returned u ∧ CpuV w' u L { setR c 0 ((c.pc + 4) % 4294967296) with pc := (c.pc + im) % 4294967296 } ∧ Tcs (fun g => g ∈ L) w w' := by
  obtain ⟨g, off, y1, n2, n3, n4, n5, x2, y2, x3, y3, x4, y4, x5, y5, rfl, hbk⟩ := h.shape32 hG.r32
  have A4 : Below w.heap.size w ((((w.alloc (.cells #[.slice ma mn mc', .int .i64 md, .int .i64 mb] 25)).alloc (.cells #[.slice (some ⟨g, off, none⟩) 32 y1, .int .u32 c.pc, .slice x2 n2 y2, .slice x3 n3 y3, .slice x4 n4 y4, .slice x5 n5 y5, .int .u32 c.low, .int .i64 c.st] 32)).alloc (.cells #[.int .i64 2, .int .i64 0, .int .i64 s1, .int .i64 s2, .int .i64 im] 64)).alloc (.cells #[.slice none 0 0, .int .u32 0, .slice none 0 0, .slice none 0 0, .slice none 0 0, .slice none 0 0, .int .u32 0, .int .i64 0] 32)) := ((((Below.refl _ _).alloc (Nat.le_refl _) _).alloc (by simp) _).alloc (by simp; omega) _).alloc (by simp; omega) _
  have hCb : ((((w.alloc (.cells #[.slice ma mn mc', .int .i64 md, .int .i64 mb] 25)).alloc (.cells #[.slice (some ⟨g, off, none⟩) 32 y1, .int .u32 c.pc, .slice x2 n2 y2, .slice x3 n3 y3, .slice x4 n4 y4, .slice x5 n5 y5, .int .u32 c.low, .int .i64 c.st] 32)).alloc (.cells #[.int .i64 2, .int .i64 0, .int .i64 s1, .int .i64 s2, .int .i64 im] 64)).alloc (.cells #[.slice none 0 0, .int .u32 0, .slice none 0 0, .slice none 0 0, .slice none 0 0, .slice none 0 0, .int .u32 0, .int .i64 0] 32)).heap[w.heap.size + 1]? = some (.cells #[.slice (some ⟨g, off, none⟩) 32 y1, .int .u32 c.pc, .slice x2 n2 y2, .slice x3 n3 y3, .slice x4 n4 y4, .slice x5 n5 y5, .int .u32 c.low, .int .i64 c.st] 32) := by
    rw [Below.heap_alloc _ _ _ (by simp), Below.heap_alloc _ _ _ (by simp)]
    have := heap_alloc_new (w.alloc (.cells #[.slice ma mn mc', .int .i64 md, .int .i64 mb] 25)) (.cells #[.slice (some ⟨g, off, none⟩) 32 y1, .int .u32 c.pc, .slice x2 n2 y2, .slice x3 n3 y3, .slice x4 n4 y4, .slice x5 n5 y5, .int .u32 c.low, .int .i64 c.st] 32)
    simpa only [World.size_alloc] using this
  have hI := h.boxed A4 hCb (by omega)
  obtain ⟨rv, d, s, i, o, hb, hr, hd, hs, hi, ho, hk, hL, hnd⟩ := id hI
  obtain rfl := Option.some.inj (hb.c0.symm.trans (Bx.of_heap hCb).c0)
  have hR := row_of hr hG.r32
  have cs1 := hR.cell s1 (by have := hG.r32; omega)
  have cs2 := hR.cell s2 (by have := hG.r32; omega)
  have hgw : g < w.heap.size := h.lt g hbk
  have e1 : ¬ g = w.heap.size := by omega
  have e2 : ¬ g = w.heap.size + 1 := by omega
  have e3 : ¬ g = w.heap.size + 1 + 1 := by omega
  have e4 : ¬ g = w.heap.size + 1 + 1 + 1 := by omega
  have HX : Hid _ := And.intro h (And.intro A4 (And.intro hI (Bx.of_heap hCb)))
  clear hb hr hR hd hs hi ho hk hL hnd h A4 hCb hI hbk
  generalize hx1 : c.regs.getD s1 0 = a at *
  generalize hx2 : c.regs.getD s2 0 = b at *
  go_enter Try.func62, Try.ntmps62
  go_wp2_with (go_at_call 53; refine (shapeJ 2 _ rfl).mono ?_; rintro e w1 ⟨rfl, rfl⟩)
  refine bodyPost_ret (v := .agg #[.slice (some ⟨g, off, none⟩) 32 y1, .int .u32 ((c.pc + im) % 4294967296), .slice x2 n2 y2, .slice x3 n3 y3, .slice x4 n4 y4, .slice x5 n5 y5, .int .u32 c.low, .int .i64 c.st])
    (by simp [results, Try.results62, go_sem]) rfl ?_
  obtain ⟨hv, A4, hI, hb⟩ := HX.out
  have B4 := fun o1 o2 o3 o4 => ((((Below.refl w.heap.size w).alloc (Nat.le_refl _) o1).alloc (by simp) o2).alloc (by simp; omega) o3).alloc (by simp; omega) o4
  refine ⟨_, rfl, ?_, Below.tcs (B4 _ _ _ _)⟩
  rw [setR_zero]
  exact (hv.pc _).below (B4 _ _ _ _)


set_option maxRecDepth 8000 in
set_option maxHeartbeats 1000000 in
theorem doJr0 (ma : Option Addr) (mn mc' : Nat) (md mb : Int) (v : Value) (L : List Nat) (c : Mc)  (s1 s2 : Nat) (im : Int) (w : World) (hG : Good c) (h : CpuV w v L c)  (h1 : s1 < 32) (h2 : s2 < 32)
     :
    Calls Try.prog 62 #[.agg #[.slice ma mn mc', .int .i64 md, .int .i64 mb], v, .agg #[.int .i64 3, .int .i64 0, .int .i64 s1, .int .i64 s2, .int .i64 im]] w fun e w' =>
      ∃ u, e = .returned u ∧ CpuV w' u L { setR c 0 ((c.pc + 4) % 4294967296) with pc := (c.regs.getD s1 0 + im) % 4294967296 / 2 * 2 } ∧ Tcs (fun g => g ∈ L) w w' := by
  obtain ⟨g, off, y1, n2, n3, n4, n5, x2, y2, x3, y3, x4, y4, x5, y5, rfl, hbk⟩ := h.shape32 hG.r32
  have A4 : Below w.heap.size w ((((w.alloc (.cells #[.slice ma mn mc', .int .i64 md, .int .i64 mb] 25)).alloc (.cells #[.slice (some ⟨g, off, none⟩) 32 y1, .int .u32 c.pc, .slice x2 n2 y2, .slice x3 n3 y3, .slice x4 n4 y4, .slice x5 n5 y5, .int .u32 c.low, .int .i64 c.st] 32)).alloc (.cells #[.int .i64 3, .int .i64 0, .int .i64 s1, .int .i64 s2, .int .i64 im] 64)).alloc (.cells #[.slice none 0 0, .int .u32 0, .slice none 0 0, .slice none 0 0, .slice none 0 0, .slice none 0 0, .int .u32 0, .int .i64 0] 32)) := ((((Below.refl _ _).alloc (Nat.le_refl _) _).alloc (by simp) _).alloc (by simp; omega) _).alloc (by simp; omega) _
  have hCb : ((((w.alloc (.cells #[.slice ma mn mc', .int .i64 md, .int .i64 mb] 25)).alloc (.cells #[.slice (some ⟨g, off, none⟩) 32 y1, .int .u32 c.pc, .slice x2 n2 y2, .slice x3 n3 y3, .slice x4 n4 y4, .slice x5 n5 y5, .int .u32 c.low, .int .i64 c.st] 32)).alloc (.cells #[.int .i64 3, .int .i64 0, .int .i64 s1, .int .i64 s2, .int .i64 im] 64)).alloc (.cells #[.slice none 0 0, .int .u32 0, .slice none 0 0, .slice none 0 0, .slice none 0 0, .slice none 0 0, .int .u32 0, .int .i64 0] 32)).heap[w.heap.size + 1]? = some (.cells #[.slice (some ⟨g, off, none⟩) 32 y1, .int .u32 c.pc, .slice x2 n2 y2, .slice x3 n3 y3, .slice x4 n4 y4, .slice x5 n5 y5, .int .u32 c.low, .int .i64 c.st] 32) := by
    rw [Below.heap_alloc _ _ _ (by simp), Below.heap_alloc _ _ _ (by simp)]
    have := heap_alloc_new (w.alloc (.cells #[.slice ma mn mc', .int .i64 md, .int .i64 mb] 25)) (.cells #[.slice (some ⟨g, off, none⟩) 32 y1, .int .u32 c.pc, .slice x2 n2 y2, .slice x3 n3 y3, .slice x4 n4 y4, .slice x5 n5 y5, .int .u32 c.low, .int .i64 c.st] 32)
    simpa only [World.size_alloc] using this
  have hI := h.boxed A4 hCb (by omega)
  obtain ⟨rv, d, s, i, o, hb, hr, hd, hs, hi, ho, hk, hL, hnd⟩ := id hI
  obtain rfl := Option.some.inj (hb.c0.symm.trans (Bx.of_heap hCb).c0)
  have hR := row_of hr hG.r32
  have cs1 := hR.cell s1 (by have := hG.r32; omega)
  have cs2 := hR.cell s2 (by have := hG.r32; omega)
  have hgw : g < w.heap.size := h.lt g hbk
  have e1 : ¬ g = w.heap.size := by omega
  have e2 : ¬ g = w.heap.size + 1 := by omega
  have e3 : ¬ g = w.heap.size + 1 + 1 := by omega
  have e4 : ¬ g = w.heap.size + 1 + 1 + 1 := by omega
  have HX : Hid _ := And.intro h (And.intro A4 (And.intro hI (Bx.of_heap hCb)))
  clear hb hr hR hd hs hi ho hk hL hnd h A4 hCb hI hbk
  generalize hx1 : c.regs.getD s1 0 = a at *
  generalize hx2 : c.regs.getD s2 0 = b at *
  go_enter Try.func62, Try.ntmps62
  go_wp2_with (go_at_call 53; refine (shapeI 3 _ (.inl rfl)).mono ?_; rintro e w1 ⟨rfl, rfl⟩)
  refine bodyPost_ret (v := .agg #[.slice (some ⟨g, off, none⟩) 32 y1, .int .u32 ((a + im) % 4294967296 / 2 * 2), .slice x2 n2 y2, .slice x3 n3 y3, .slice x4 n4 y4, .slice x5 n5 y5, .int .u32 c.low, .int .i64 c.st])
    (by simp [results, Try.results62, go_sem]) rfl ?_
  obtain ⟨hv, A4, hI, hb⟩ := HX.out
  have B4 := fun o1 o2 o3 o4 => ((((Below.refl w.heap.size w).alloc (Nat.le_refl _) o1).alloc (by simp) o2).alloc (by simp; omega) o3).alloc (by simp; omega) o4
  refine ⟨_, rfl, ?_, Below.tcs (B4 _ _ _ _)⟩
  rw [setR_zero]
  exact (hv.pc _).below (B4 _ _ _ _)

end Go.Proofs.Ytabjcodpagjbjaa

namespace Go.Proofs.Ytabjcodpagjbjaa
open Go.RowKit
set_option linter.unusedVariables false
set_option linter.unusedSimpArgs false

set_option maxRecDepth 8000 in
set_option maxHeartbeats 1000000 in
theorem exI12 (C : Nat) (L : List Nat) (c : Mc)  (rd s1 s2 : Nat) (im : Int) (w : World) (hG : Good c) (h : CpuIn w C L c) (r : Int) (hrd : rd < 32) (h1 : s1 < 32) (h2 : s2 < 32)
    (hst : c.st = 0) (hA : AluIs 12 (c.regs.getD s1 0) (im % 4294967296) r) :
    Calls Try.prog 58 #[.pointer (some ⟨C, 0, none⟩), .agg #[.int .i64 12, .int .i64 rd, .int .i64 s1, .int .i64 s2, .int .i64 im]] w fun e w' =>
      e = .returned (.bool true) ∧ CpuIn w' C L { setR c rd r with pc := (c.pc + 4) % 4294967296 } ∧ Tcs (fun g => g ∈ L) w w' := by
  have T0 := (Tcs.refl (fun g => g ∈ L) w).alloc (.cells #[.int .i64 12, .int .i64 rd, .int .i64 s1, .int .i64 s2, .int .i64 im] 64)
  have h0 := h.below ((Below.refl w.heap.size w).alloc (Nat.le_refl _) (.cells #[.int .i64 12, .int .i64 rd, .int .i64 s1, .int .i64 s2, .int .i64 im] 64))
  obtain ⟨rv, d, s, i, o, hb, hr, hd, hs, hi, ho, hk, hL, hnd⟩ := id h0
  obtain ⟨g, off, cap, rfl, hR, hbk⟩ := lis_some hr (by have := hG.r32; omega)
  have e32 := hG.r32
  have c0 := hb.c0
  rw [e32] at c0
  have c1 := hb.c1
  have cs1 := hR.cell s1 (by omega)
  have cs2 := hR.cell s2 (by omega)
  have X0 : ∀ {W : World}, Tcs (fun g => g ∈ L) (w.alloc (.cells #[.int .i64 12, .int .i64 rd, .int .i64 s1, .int .i64 s2, .int .i64 im] 64)) W → W.cell? ⟨w.heap.size, 0, none⟩ = some (.int .i64 12) ∧ W.cell? ⟨w.heap.size, 1, none⟩ = some (.int .i64 rd) := by
    intro W hW
    have hkb := hW.block w.heap.size (by simp) (fun hm => by have := h.lt _ hm; omega)
    constructor <;> (rw [World.cell?_of_block (w := w.alloc _) hkb]; simp)
  have HS : Hid (∀ W v, Below (w.alloc (.cells #[.int .i64 12, .int .i64 rd, .int .i64 s1, .int .i64 s2, .int .i64 im] 64)).heap.size (w.alloc (.cells #[.int .i64 12, .int .i64 rd, .int .i64 s1, .int .i64 s2, .int .i64 im] 64)) W →
      Calls Try.prog 71 #[.pointer (some ⟨C, 0, none⟩), .int .i64 rd, .int .u32 v] W fun e w' => e = .returned (.tuple #[]) ∧ CpuIn w' C L (setR c rd v) ∧ Tcs (fun g => g ∈ L) w w' ∧ (w'.cell? ⟨w.heap.size, 0, none⟩ = some (.int .i64 12) ∧ w'.cell? ⟨w.heap.size, 1, none⟩ = some (.int .i64 rd))) := by
    intro W v hW
    refine (setReg_any C L c rd v W hG.r32 (by omega) (h0.below hW)).mono ?_
    rintro e w' ⟨rfl, hc, ht⟩
    have t1 := (Below.tcs (S := fun g => g ∈ L) hW).trans ht
    exact ⟨rfl, hc, T0.trans t1, X0 t1⟩
  have X00 := X0 (Tcs.refl _ _)
  have HI : Hid _ := hA
  clear hA
  clear hb hr hR hd hs hi ho hk hL hnd hbk h h0 T0 X0
  generalize hx1 : c.regs.getD s1 0 = a at *
  generalize hx2 : c.regs.getD s2 0 = b at *
  go_enter Try.func58, Try.ntmps58
  go_wp2_with fail
  go_quiet (fail)
  go_wp2_with fail
  go_region_held3 (fun W => W.cell? ⟨w.heap.size, 0, none⟩ = some (.int .i64 12) ∧ W.cell? ⟨w.heap.size, 1, none⟩ = some (.int .i64 rd)) (first | exact X00 | assumption | (go_simp; done))
    (first
    | (go_at_call 77; refine (HI.out.2.1 _).mono ?_; rintro e w1 ⟨rfl, rfl⟩)
    | (go_at_call 71; refine (HS.out _ _ ?_).mono ?_; (first | exact below_drewN (Below.refl _ _) _ | exact (below_drewN (Below.refl _ _) _).drew | exact (Below.refl _ _).drew | exact Below.refl _ _); rintro e w2 ⟨rfl, hc2, ht2, x2⟩))
  obtain ⟨rv, d2, s2', i2, o2, hb2, _, _, _, _, _, _, _⟩ := id hc2
  have q1 := hb2.c1
  have q7 := hb2.c7
  have qf := hb2.fz 1
  rw [setR_pc] at q1
  rw [setR_st, hst] at q7
  have HE : Hid _ := And.intro hc2 ht2
  clear hb2 hc2 ht2 x2
  go_wp2
  go_ret
  exact ⟨rfl, HE.out.1.pc _, HE.out.2.setCell HE.out.1.mem _⟩


set_option maxRecDepth 8000 in
set_option maxHeartbeats 1000000 in
theorem exI13 (C : Nat) (L : List Nat) (c : Mc)  (rd s1 s2 : Nat) (im : Int) (w : World) (hG : Good c) (h : CpuIn w C L c) (r : Int) (hrd : rd < 32) (h1 : s1 < 32) (h2 : s2 < 32)
    (hst : c.st = 0) (hA : AluIs 13 (c.regs.getD s1 0) (im % 4294967296) r) :
    Calls Try.prog 58 #[.pointer (some ⟨C, 0, none⟩), .agg #[.int .i64 13, .int .i64 rd, .int .i64 s1, .int .i64 s2, .int .i64 im]] w fun e w' =>
      e = .returned (.bool true) ∧ CpuIn w' C L { setR c rd r with pc := (c.pc + 4) % 4294967296 } ∧ Tcs (fun g => g ∈ L) w w' := by
  have T0 := (Tcs.refl (fun g => g ∈ L) w).alloc (.cells #[.int .i64 13, .int .i64 rd, .int .i64 s1, .int .i64 s2, .int .i64 im] 64)
  have h0 := h.below ((Below.refl w.heap.size w).alloc (Nat.le_refl _) (.cells #[.int .i64 13, .int .i64 rd, .int .i64 s1, .int .i64 s2, .int .i64 im] 64))
  obtain ⟨rv, d, s, i, o, hb, hr, hd, hs, hi, ho, hk, hL, hnd⟩ := id h0
  obtain ⟨g, off, cap, rfl, hR, hbk⟩ := lis_some hr (by have := hG.r32; omega)
  have e32 := hG.r32
  have c0 := hb.c0
  rw [e32] at c0
  have c1 := hb.c1
  have cs1 := hR.cell s1 (by omega)
  have cs2 := hR.cell s2 (by omega)
  have X0 : ∀ {W : World}, Tcs (fun g => g ∈ L) (w.alloc (.cells #[.int .i64 13, .int .i64 rd, .int .i64 s1, .int .i64 s2, .int .i64 im] 64)) W → W.cell? ⟨w.heap.size, 0, none⟩ = some (.int .i64 13) ∧ W.cell? ⟨w.heap.size, 1, none⟩ = some (.int .i64 rd) := by
    intro W hW
    have hkb := hW.block w.heap.size (by simp) (fun hm => by have := h.lt _ hm; omega)
    constructor <;> (rw [World.cell?_of_block (w := w.alloc _) hkb]; simp)
  have HS : Hid (∀ W v, Below (w.alloc (.cells #[.int .i64 13, .int .i64 rd, .int .i64 s1, .int .i64 s2, .int .i64 im] 64)).heap.size (w.alloc (.cells #[.int .i64 13, .int .i64 rd, .int .i64 s1, .int .i64 s2, .int .i64 im] 64)) W →
      Calls Try.prog 71 #[.pointer (some ⟨C, 0, none⟩), .int .i64 rd, .int .u32 v] W fun e w' => e = .returned (.tuple #[]) ∧ CpuIn w' C L (setR c rd v) ∧ Tcs (fun g => g ∈ L) w w' ∧ (w'.cell? ⟨w.heap.size, 0, none⟩ = some (.int .i64 13) ∧ w'.cell? ⟨w.heap.size, 1, none⟩ = some (.int .i64 rd))) := by
    intro W v hW
    refine (setReg_any C L c rd v W hG.r32 (by omega) (h0.below hW)).mono ?_
    rintro e w' ⟨rfl, hc, ht⟩
    have t1 := (Below.tcs (S := fun g => g ∈ L) hW).trans ht
    exact ⟨rfl, hc, T0.trans t1, X0 t1⟩
  have X00 := X0 (Tcs.refl _ _)
  have HI : Hid _ := hA
  clear hA
  clear hb hr hR hd hs hi ho hk hL hnd hbk h h0 T0 X0
  generalize hx1 : c.regs.getD s1 0 = a at *
  generalize hx2 : c.regs.getD s2 0 = b at *
  go_enter Try.func58, Try.ntmps58
  go_wp2_with fail
  go_quiet (fail)
  go_wp2_with fail
  go_region_held3 (fun W => W.cell? ⟨w.heap.size, 0, none⟩ = some (.int .i64 13) ∧ W.cell? ⟨w.heap.size, 1, none⟩ = some (.int .i64 rd)) (first | exact X00 | assumption | (go_simp; done))
    (first
    | (go_at_call 77; refine (HI.out.2.1 _).mono ?_; rintro e w1 ⟨rfl, rfl⟩)
    | (go_at_call 71; refine (HS.out _ _ ?_).mono ?_; (first | exact below_drewN (Below.refl _ _) _ | exact (below_drewN (Below.refl _ _) _).drew | exact (Below.refl _ _).drew | exact Below.refl _ _); rintro e w2 ⟨rfl, hc2, ht2, x2⟩))
  obtain ⟨rv, d2, s2', i2, o2, hb2, _, _, _, _, _, _, _⟩ := id hc2
  have q1 := hb2.c1
  have q7 := hb2.c7
  have qf := hb2.fz 1
  rw [setR_pc] at q1
  rw [setR_st, hst] at q7
  have HE : Hid _ := And.intro hc2 ht2
  clear hb2 hc2 ht2 x2
  go_wp2
  go_ret
  exact ⟨rfl, HE.out.1.pc _, HE.out.2.setCell HE.out.1.mem _⟩


set_option maxRecDepth 8000 in
set_option maxHeartbeats 1000000 in
theorem exI14 (C : Nat) (L : List Nat) (c : Mc)  (rd s1 s2 : Nat) (im : Int) (w : World) (hG : Good c) (h : CpuIn w C L c) (r : Int) (hrd : rd < 32) (h1 : s1 < 32) (h2 : s2 < 32)
    (hst : c.st = 0) (hA : AluIs 14 (c.regs.getD s1 0) (im % 4294967296) r) :
    Calls Try.prog 58 #[.pointer (some ⟨C, 0, none⟩), .agg #[.int .i64 14, .int .i64 rd, .int .i64 s1, .int .i64 s2, .int .i64 im]] w fun e w' =>
      e = .returned (.bool true) ∧ CpuIn w' C L { setR c rd r with pc := (c.pc + 4) % 4294967296 } ∧ Tcs (fun g => g ∈ L) w w' := by
  have T0 := (Tcs.refl (fun g => g ∈ L) w).alloc (.cells #[.int .i64 14, .int .i64 rd, .int .i64 s1, .int .i64 s2, .int .i64 im] 64)
  have h0 := h.below ((Below.refl w.heap.size w).alloc (Nat.le_refl _) (.cells #[.int .i64 14, .int .i64 rd, .int .i64 s1, .int .i64 s2, .int .i64 im] 64))
  obtain ⟨rv, d, s, i, o, hb, hr, hd, hs, hi, ho, hk, hL, hnd⟩ := id h0
  obtain ⟨g, off, cap, rfl, hR, hbk⟩ := lis_some hr (by have := hG.r32; omega)
  have e32 := hG.r32
  have c0 := hb.c0
  rw [e32] at c0
  have c1 := hb.c1
  have cs1 := hR.cell s1 (by omega)
  have cs2 := hR.cell s2 (by omega)
  have X0 : ∀ {W : World}, Tcs (fun g => g ∈ L) (w.alloc (.cells #[.int .i64 14, .int .i64 rd, .int .i64 s1, .int .i64 s2, .int .i64 im] 64)) W → W.cell? ⟨w.heap.size, 0, none⟩ = some (.int .i64 14) ∧ W.cell? ⟨w.heap.size, 1, none⟩ = some (.int .i64 rd) := by
    intro W hW
    have hkb := hW.block w.heap.size (by simp) (fun hm => by have := h.lt _ hm; omega)
    constructor <;> (rw [World.cell?_of_block (w := w.alloc _) hkb]; simp)
  have HS : Hid (∀ W v, Below (w.alloc (.cells #[.int .i64 14, .int .i64 rd, .int .i64 s1, .int .i64 s2, .int .i64 im] 64)).heap.size (w.alloc (.cells #[.int .i64 14, .int .i64 rd, .int .i64 s1, .int .i64 s2, .int .i64 im] 64)) W →
      Calls Try.prog 71 #[.pointer (some ⟨C, 0, none⟩), .int .i64 rd, .int .u32 v] W fun e w' => e = .returned (.tuple #[]) ∧ CpuIn w' C L (setR c rd v) ∧ Tcs (fun g => g ∈ L) w w' ∧ (w'.cell? ⟨w.heap.size, 0, none⟩ = some (.int .i64 14) ∧ w'.cell? ⟨w.heap.size, 1, none⟩ = some (.int .i64 rd))) := by
    intro W v hW
    refine (setReg_any C L c rd v W hG.r32 (by omega) (h0.below hW)).mono ?_
    rintro e w' ⟨rfl, hc, ht⟩
    have t1 := (Below.tcs (S := fun g => g ∈ L) hW).trans ht
    exact ⟨rfl, hc, T0.trans t1, X0 t1⟩
  have X00 := X0 (Tcs.refl _ _)
  have HI : Hid _ := hA
  clear hA
  clear hb hr hR hd hs hi ho hk hL hnd hbk h h0 T0 X0
  generalize hx1 : c.regs.getD s1 0 = a at *
  generalize hx2 : c.regs.getD s2 0 = b at *
  go_enter Try.func58, Try.ntmps58
  go_wp2_with fail
  go_quiet (fail)
  go_wp2_with fail
  go_region_held3 (fun W => W.cell? ⟨w.heap.size, 0, none⟩ = some (.int .i64 14) ∧ W.cell? ⟨w.heap.size, 1, none⟩ = some (.int .i64 rd)) (first | exact X00 | assumption | (go_simp; done))
    (first
    | (go_at_call 77; refine (HI.out.2.1 _).mono ?_; rintro e w1 ⟨rfl, rfl⟩)
    | (go_at_call 71; refine (HS.out _ _ ?_).mono ?_; (first | exact below_drewN (Below.refl _ _) _ | exact (below_drewN (Below.refl _ _) _).drew | exact (Below.refl _ _).drew | exact Below.refl _ _); rintro e w2 ⟨rfl, hc2, ht2, x2⟩))
  obtain ⟨rv, d2, s2', i2, o2, hb2, _, _, _, _, _, _, _⟩ := id hc2
  have q1 := hb2.c1
  have q7 := hb2.c7
  have qf := hb2.fz 1
  rw [setR_pc] at q1
  rw [setR_st, hst] at q7
  have HE : Hid _ := And.intro hc2 ht2
  clear hb2 hc2 ht2 x2
  go_wp2
  go_ret
  exact ⟨rfl, HE.out.1.pc _, HE.out.2.setCell HE.out.1.mem _⟩

end Go.Proofs.Ytabjcodpagjbjaa
