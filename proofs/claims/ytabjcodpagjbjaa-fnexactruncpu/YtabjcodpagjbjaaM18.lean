import Derived.Test.YtabjcodpagjbjaaM09
namespace Go.Proofs.Ytabjcodpagjbjaa
open Go.RowKit
set_option linter.unusedVariables false
set_option linter.unusedSimpArgs false

set_option maxRecDepth 8000 in
set_option maxHeartbeats 1000000 in
theorem doBt (ma : Option Addr) (mn mc' : Nat) (md mb : Int) (v : Value) (L : List Nat) (c : Mc) (op : Int) (s1 s2 : Nat) (im : Int) (w : World) (hG : Good c) (h : CpuV w v L c) (hop : 4 ≤ op ∧ op ≤ 9) (h1 : s1 < 32) (h2 : s2 < 32)
    (hA : TakIs op (c.regs.getD s1 0) (c.regs.getD s2 0) true) :
    Calls Try.prog 62 #[.agg #[.slice ma mn mc', .int .i64 md, .int .i64 mb], v, .agg #[.int .i64 op, .int .i64 0, .int .i64 s1, .int .i64 s2, .int .i64 im]] w fun e w' =>
      ∃ u, e = .returned u ∧ CpuV w' u L { c with pc := (c.pc + im) % 4294967296 } ∧ Tcs (fun g => g ∈ L) w w' := by
  obtain ⟨g, off, y1, n2, n3, n4, n5, x2, y2, x3, y3, x4, y4, x5, y5, rfl, hbk⟩ := h.shape32 hG.r32
  have A4 : Below w.heap.size w ((((w.alloc (.cells #[.slice ma mn mc', .int .i64 md, .int .i64 mb] 25)).alloc (.cells #[.slice (some ⟨g, off, none⟩) 32 y1, .int .u32 c.pc, .slice x2 n2 y2, .slice x3 n3 y3, .slice x4 n4 y4, .slice x5 n5 y5, .int .u32 c.low, .int .i64 c.st] 32)).alloc (.cells #[.int .i64 op, .int .i64 0, .int .i64 s1, .int .i64 s2, .int .i64 im] 64)).alloc (.cells #[.slice none 0 0, .int .u32 0, .slice none 0 0, .slice none 0 0, .slice none 0 0, .slice none 0 0, .int .u32 0, .int .i64 0] 32)) := ((((Below.refl _ _).alloc (Nat.le_refl _) _).alloc (by simp) _).alloc (by simp; omega) _).alloc (by simp; omega) _
  have hCb : ((((w.alloc (.cells #[.slice ma mn mc', .int .i64 md, .int .i64 mb] 25)).alloc (.cells #[.slice (some ⟨g, off, none⟩) 32 y1, .int .u32 c.pc, .slice x2 n2 y2, .slice x3 n3 y3, .slice x4 n4 y4, .slice x5 n5 y5, .int .u32 c.low, .int .i64 c.st] 32)).alloc (.cells #[.int .i64 op, .int .i64 0, .int .i64 s1, .int .i64 s2, .int .i64 im] 64)).alloc (.cells #[.slice none 0 0, .int .u32 0, .slice none 0 0, .slice none 0 0, .slice none 0 0, .slice none 0 0, .int .u32 0, .int .i64 0] 32)).heap[w.heap.size + 1]? = some (.cells #[.slice (some ⟨g, off, none⟩) 32 y1, .int .u32 c.pc, .slice x2 n2 y2, .slice x3 n3 y3, .slice x4 n4 y4, .slice x5 n5 y5, .int .u32 c.low, .int .i64 c.st] 32) := by
    rw [Below.heap_alloc _ _ _ (by simp), Below.heap_alloc _ _ _ (by simp)]
    have := heap_alloc_new (w.alloc (.cells #[.slice ma mn mc', .int .i64 md, .int .i64 mb] 25)) (.cells #[.slice (some ⟨g, off, none⟩) 32 y1, .int .u32 c.pc, .slice x2 n2 y2, .slice x3 n3 y3, .slice x4 n4 y4, .slice x5 n5 y5, .int .u32 c.low, .int .i64 c.st] 32)
    simpa only [World.size_alloc] using this
  have hI := h.boxed A4 hCb (by omega)
  obtain ⟨rv, d, s, i, o, hb, hr, hd, hs, hi, ho, hk, hL, hnd⟩ := id hI
  obtain rfl := Option.some.inj (hb.c0.symm.trans (Bx.of_heap hCb).c0)
  have hR := row_of hr hG.r32
  have cs1 := hR.cell s1 (by have := hG.r32; omega)
  have cs2 := hR.cell s2 (by have := hG.r32; omega)
  have hgw : g < w.heap.size := h.lt g hbk
  have e1 : ¬ g = w.heap.size := by omega
  have e2 : ¬ g = w.heap.size + 1 := by omega
  have e3 : ¬ g = w.heap.size + 1 + 1 := by omega
  have e4 : ¬ g = w.heap.size + 1 + 1 + 1 := by omega
  have o1 : ¬ op = 10 := by omega
  have o2 : ¬ op = 11 := by omega
  have o3 : ¬ op = 34 := by omega
  have o4 : (op == 10 || op == 11) = false := by simp [o1, o2]
  have HI : Hid _ := hA
  clear hA
  have HX : Hid _ := And.intro h (And.intro A4 (And.intro hI (Bx.of_heap hCb)))
  clear hb hr hR hd hs hi ho hk hL hnd h A4 hCb hI hbk
  generalize hx1 : c.regs.getD s1 0 = a at *
  generalize hx2 : c.regs.getD s2 0 = b at *
  go_enter Try.func62, Try.ntmps62
  go_wp2_with (first | (go_at_call 53; refine (shapeB op _ hop).mono ?_; rintro e w1 ⟨rfl, rfl⟩) | (go_at_call 81; refine (HI.out.2 _).mono ?_; rintro e w2 ⟨rfl, rfl⟩))
  refine bodyPost_ret (v := .agg #[.slice (some ⟨g, off, none⟩) 32 y1, .int .u32 ((c.pc + im) % 4294967296), .slice x2 n2 y2, .slice x3 n3 y3, .slice x4 n4 y4, .slice x5 n5 y5, .int .u32 c.low, .int .i64 c.st])
    (by simp [results, Try.results62, go_sem]) rfl ?_
  obtain ⟨hv, A4, hI, hb⟩ := HX.out
  have B4 := fun o1 o2 o3 o4 => ((((Below.refl w.heap.size w).alloc (Nat.le_refl _) o1).alloc (by simp) o2).alloc (by simp; omega) o3).alloc (by simp; omega) o4
  refine ⟨_, rfl, ?_, Below.tcs (B4 _ _ _ _)⟩
  exact (hv.pc _).below (B4 _ _ _ _)


set_option maxRecDepth 8000 in
set_option maxHeartbeats 1000000 in
theorem doBf (ma : Option Addr) (mn mc' : Nat) (md mb : Int) (v : Value) (L : List Nat) (c : Mc) (op : Int) (s1 s2 : Nat) (im : Int) (w : World) (hG : Good c) (h : CpuV w v L c) (hop : 4 ≤ op ∧ op ≤ 9) (h1 : s1 < 32) (h2 : s2 < 32)
    (hA : TakIs op (c.regs.getD s1 0) (c.regs.getD s2 0) false) :
    Calls Try.prog 62 #[.agg #[.slice ma mn mc', .int .i64 md, .int .i64 mb], v, .agg #[.int .i64 op, .int .i64 0, .int .i64 s1, .int .i64 s2, .int .i64 im]] w fun e w' =>
      ∃ u, e = .returned u ∧ CpuV w' u L { c with pc := (c.pc + 4) % 4294967296 } ∧ Tcs (fun g => g ∈ L) w w' := by
  obtain ⟨g, off, y1, n2, n3, n4, n5, x2, y2, x3, y3, x4, y4, x5, y5, rfl, hbk⟩ := h.shape32 hG.r32
  have A4 : Below w.heap.size w ((((w.alloc (.cells #[.slice ma mn mc', .int .i64 md, .int .i64 mb] 25)).alloc (.cells #[.slice (some ⟨g, off, none⟩) 32 y1, .int .u32 c.pc, .slice x2 n2 y2, .slice x3 n3 y3, .slice x4 n4 y4, .slice x5 n5 y5, .int .u32 c.low, .int .i64 c.st] 32)).alloc (.cells #[.int .i64 op, .int .i64 0, .int .i64 s1, .int .i64 s2, .int .i64 im] 64)).alloc (.cells #[.slice none 0 0, .int .u32 0, .slice none 0 0, .slice none 0 0, .slice none 0 0, .slice none 0 0, .int .u32 0, .int .i64 0] 32)) := ((((Below.refl _ _).alloc (Nat.le_refl _) _).alloc (by simp) _).alloc (by simp; omega) _).alloc (by simp; omega) _
  have hCb : ((((w.alloc (.cells #[.slice ma mn mc', .int .i64 md, .int .i64 mb] 25)).alloc (.cells #[.slice (some ⟨g, off, none⟩) 32 y1, .int .u32 c.pc, .slice x2 n2 y2, .slice x3 n3 y3, .slice x4 n4 y4, .slice x5 n5 y5, .int .u32 c.low, .int .i64 c.st] 32)).alloc (.cells #[.int .i64 op, .int .i64 0, .int .i64 s1, .int .i64 s2, .int .i64 im] 64)).alloc (.cells #[.slice none 0 0, .int .u32 0, .slice none 0 0, .slice none 0 0, .slice none 0 0, .slice none 0 0, .int .u32 0, .int .i64 0] 32)).heap[w.heap.size + 1]? = some (.cells #[.slice (some ⟨g, off, none⟩) 32 y1, .int .u32 c.pc, .slice x2 n2 y2, .slice x3 n3 y3, .slice x4 n4 y4, .slice x5 n5 y5, .int .u32 c.low, .int .i64 c.st] 32) := by
    rw [Below.heap_alloc _ _ _ (by simp), Below.heap_alloc _ _ _ (by simp)]
    have := heap_alloc_new (w.alloc (.cells #[.slice ma mn mc', .int .i64 md, .int .i64 mb] 25)) (.cells #[.slice (some ⟨g, off, none⟩) 32 y1, .int .u32 c.pc, .slice x2 n2 y2, .slice x3 n3 y3, .slice x4 n4 y4, .slice x5 n5 y5, .int .u32 c.low, .int .i64 c.st] 32)
    simpa only [World.size_alloc] using this
  have hI := h.boxed A4 hCb (by omega)
  obtain ⟨rv, d, s, i, o, hb, hr, hd, hs, hi, ho, hk, hL, hnd⟩ := id hI
  obtain rfl := Option.some.inj (hb.c0.symm.trans (Bx.of_heap hCb).c0)
  have hR := row_of hr hG.r32
  have cs1 := hR.cell s1 (by have := hG.r32; omega)
  have cs2 := hR.cell s2 (by have := hG.r32; omega)
  have hgw : g < w.heap.size := h.lt g hbk
  have e1 : ¬ g = w.heap.size := by omega
  have e2 : ¬ g = w.heap.size + 1 := by omega
  have e3 : ¬ g = w.heap.size + 1 + 1 := by omega
  have e4 : ¬ g = w.heap.size + 1 + 1 + 1 := by omega
  have o1 : ¬ op = 10 := by omega
  have o2 : ¬ op = 11 := by omega
  have o3 : ¬ op = 34 := by omega
  have o4 : (op == 10 || op == 11) = false := by simp [o1, o2]
  have HI : Hid _ := hA
  clear hA
  have HX : Hid _ := And.intro h (And.intro A4 (And.intro hI (Bx.of_heap hCb)))
  clear hb hr hR hd hs hi ho hk hL hnd h A4 hCb hI hbk
  generalize hx1 : c.regs.getD s1 0 = a at *
  generalize hx2 : c.regs.getD s2 0 = b at *
  go_enter Try.func62, Try.ntmps62
  go_wp2_with (first | (go_at_call 53; refine (shapeB op _ hop).mono ?_; rintro e w1 ⟨rfl, rfl⟩) | (go_at_call 81; refine (HI.out.2 _).mono ?_; rintro e w2 ⟨rfl, rfl⟩))
  refine bodyPost_ret (v := .agg #[.slice (some ⟨g, off, none⟩) 32 y1, .int .u32 ((c.pc + 4) % 4294967296), .slice x2 n2 y2, .slice x3 n3 y3, .slice x4 n4 y4, .slice x5 n5 y5, .int .u32 c.low, .int .i64 c.st])
    (by simp [results, Try.results62, go_sem]) rfl ?_
  obtain ⟨hv, A4, hI, hb⟩ := HX.out
  have B4 := fun o1 o2 o3 o4 => ((((Below.refl w.heap.size w).alloc (Nat.le_refl _) o1).alloc (by simp) o2).alloc (by simp; omega) o3).alloc (by simp; omega) o4
  refine ⟨_, rfl, ?_, Below.tcs (B4 _ _ _ _)⟩
  exact (hv.pc _).below (B4 _ _ _ _)

end Go.Proofs.Ytabjcodpagjbjaa
