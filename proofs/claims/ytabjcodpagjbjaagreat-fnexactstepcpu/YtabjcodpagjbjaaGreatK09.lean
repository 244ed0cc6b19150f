import Derived.Test.YtabjcodpagjbjaaGreatK06
import Derived.OwnWalk
import Derived.Laws.OwnMore
import Derived.Test.YtabjcodpagjbjaaGreatK04
namespace Go.Proofs.YtabjcodpagjbjaaGreat
open Go.RowKit
set_option linter.unusedVariables false
set_option linter.unusedSimpArgs false

theorem CpuV.stt {w : World} {r p d s i o l t : Value} {L : List Nat} {c : Mc} (h : CpuV w (.agg #[r, p, d, s, i, o, l, t]) L c) (x : Int) : CpuV w (.agg #[r, p, d, s, i, o, l, .int .i64 x]) L { c with st := x } := by
  obtain ⟨r', d', s', i', o', hv, hr, hd, hs, hi, ho, hk, rfl, hnd⟩ := h
  simp only [Value.agg.injEq, Array.mk.injEq, List.cons.injEq, and_true] at hv
  obtain ⟨rfl, rfl, rfl, rfl, rfl, rfl, rfl, rfl⟩ := hv
  exact ⟨_, _, _, _, _, rfl, hr, hd, hs, hi, ho, hk, rfl, hnd⟩
theorem own_len {w : World} {r p d s i l t : Value} {x : Option Addr} {n y : Nat} {L : List Nat} {c : Mc} (h : CpuV w (.agg #[r, p, d, s, i, .slice x n y, l, t]) L c) : n = c.out.length := by
  obtain ⟨r', d', s', i', o', hv, hr, hd, hs, hi, ho, hk, rfl, hnd⟩ := h
  simp only [Value.agg.injEq, Array.mk.injEq, List.cons.injEq, and_true] at hv
  obtain ⟨rfl, rfl, rfl, rfl, rfl, rfl, rfl, rfl⟩ := hv
  obtain ⟨a, k, e⟩ := own_slice ho
  simp only [Value.slice.injEq] at e
  exact e.2.1
theorem below2 (w : World) (o1 o2 : Obj) : Below w.heap.size w ((w.alloc o1).alloc o2) := ((Below.refl w.heap.size w).alloc (Nat.le_refl _) o1).alloc (by simp) o2
set_option maxRecDepth 8000 in
set_option maxHeartbeats 1000000 in
theorem fault_any (v : Value) (L : List Nat) (c : Mc) (w : World) (h : CpuV w v L c) :
    Calls Tryz.prog 42 #[v] w fun e w' => ∃ u, e = .returned u ∧ CpuV w' u L { c with st := 2 } ∧ Below w.heap.size w w' := by
  obtain ⟨n1, n2, n3, n4, n5, x1, y1, x2, y2, x3, y3, x4, y4, x5, y5, rfl⟩ := h.shape
  have HX : Hid _ := h
  clear h
  go_enter Tryz.func42, Tryz.ntmps42
  go_wp2
  refine bodyPost_ret (v := .agg #[.slice x1 n1 y1, .int .u32 c.pc, .slice x2 n2 y2, .slice x3 n3 y3, .slice x4 n4 y4, .slice x5 n5 y5, .int .u32 c.low, .int .i64 2]) (by simp [results, Tryz.results42, go_sem]) rfl ?_
  refine ⟨_, rfl, ?_, below2 _ _ _⟩
  exact (CpuV.stt HX.out 2).below (below2 _ _ _)


set_option maxRecDepth 8000 in
set_option maxHeartbeats 1000000 in
theorem ecHalt (v : Value) (L : List Nat) (c : Mc) (w : World) (hG : Good c) (h : CpuV w v L c) (h17 : c.regs.getD 17 0 = 10) :
    Calls Tryz.prog 58 #[v] w fun e w' => ∃ u, e = .returned u ∧ CpuV w' u L { c with st := 1 } ∧ Tcs (fun g => g ∈ L) w w' := by
  obtain ⟨g, off, y1, n2, n3, n4, n5, x2, y2, x3, y3, x4, y4, x5, y5, rfl, hbk⟩ := h.shape32 hG.r32
  have A4 : Below w.heap.size w ((w.alloc (.cells #[.slice (some ⟨g, off, none⟩) 32 y1, .int .u32 c.pc, .slice x2 n2 y2, .slice x3 n3 y3, .slice x4 n4 y4, .slice x5 n5 y5, .int .u32 c.low, .int .i64 c.st] 32)).alloc (.cells #[.slice none 0 0, .int .u32 0, .slice none 0 0, .slice none 0 0, .slice none 0 0, .slice none 0 0, .int .u32 0, .int .i64 0] 32)) := below2 _ _ _
  have hCb : ((w.alloc (.cells #[.slice (some ⟨g, off, none⟩) 32 y1, .int .u32 c.pc, .slice x2 n2 y2, .slice x3 n3 y3, .slice x4 n4 y4, .slice x5 n5 y5, .int .u32 c.low, .int .i64 c.st] 32)).alloc (.cells #[.slice none 0 0, .int .u32 0, .slice none 0 0, .slice none 0 0, .slice none 0 0, .slice none 0 0, .int .u32 0, .int .i64 0] 32)).heap[w.heap.size]? = some (.cells #[.slice (some ⟨g, off, none⟩) 32 y1, .int .u32 c.pc, .slice x2 n2 y2, .slice x3 n3 y3, .slice x4 n4 y4, .slice x5 n5 y5, .int .u32 c.low, .int .i64 c.st] 32) := by
    rw [Below.heap_alloc _ _ _ (by simp)]
    exact heap_alloc_new w _
  have hI := h.boxed A4 hCb (Nat.le_refl _)
  obtain ⟨rv, d, s, i, o, hb, hr, hd, hs, hi, ho, hk, hL, hnd⟩ := id hI
  obtain rfl := Option.some.inj (hb.c0.symm.trans (Bx.of_heap hCb).c0)
  have hR := row_of hr hG.r32
  have r17 := hR.cell 17 (by have := hG.r32; omega)
  have r10 := hR.cell 10 (by have := hG.r32; omega)
  have f10 := hR.froz (off + 10)
  have hgw : g < w.heap.size := h.lt g hbk
  have e1 : ¬ g = w.heap.size := by omega
  have e2 : ¬ g = w.heap.size + 1 := by omega
  rw [h17] at r17
  have HX : Hid _ := And.intro h (And.intro A4 (And.intro hI (Bx.of_heap hCb)))
  clear hb hr hR hd hs hi ho hk hL hnd h A4 hCb hI hbk
  generalize hx17 : c.regs.getD 17 0 = q17 at *
  generalize hx10 : c.regs.getD 10 0 = q10 at *
  go_enter Tryz.func58, Tryz.ntmps58
  go_wp2
  refine bodyPost_ret (v := .agg #[.slice (some ⟨g, off, none⟩) 32 y1, .int .u32 c.pc, .slice x2 n2 y2, .slice x3 n3 y3, .slice x4 n4 y4, .slice x5 n5 y5, .int .u32 c.low, .int .i64 1]) (by simp [results, Tryz.results58, go_sem]) rfl ?_
  refine ⟨_, rfl, ?_, Below.tcs (below2 _ _ _)⟩
  exact (CpuV.stt HX.out.1 1).below (below2 _ _ _)


set_option maxRecDepth 8000 in
set_option maxHeartbeats 1000000 in
theorem ecElse (v : Value) (L : List Nat) (c : Mc) (w : World) (hG : Good c) (h : CpuV w v L c) (h17 : ¬ c.regs.getD 17 0 = 1 ∧ ¬ c.regs.getD 17 0 = 2 ∧ ¬ c.regs.getD 17 0 = 10) :
    Calls Tryz.prog 58 #[v] w fun e w' => ∃ u, e = .returned u ∧ CpuV w' u L { c with st := 2 } ∧ Tcs (fun g => g ∈ L) w w' := by
  obtain ⟨g, off, y1, n2, n3, n4, n5, x2, y2, x3, y3, x4, y4, x5, y5, rfl, hbk⟩ := h.shape32 hG.r32
  have A4 : Below w.heap.size w ((w.alloc (.cells #[.slice (some ⟨g, off, none⟩) 32 y1, .int .u32 c.pc, .slice x2 n2 y2, .slice x3 n3 y3, .slice x4 n4 y4, .slice x5 n5 y5, .int .u32 c.low, .int .i64 c.st] 32)).alloc (.cells #[.slice none 0 0, .int .u32 0, .slice none 0 0, .slice none 0 0, .slice none 0 0, .slice none 0 0, .int .u32 0, .int .i64 0] 32)) := below2 _ _ _
  have hCb : ((w.alloc (.cells #[.slice (some ⟨g, off, none⟩) 32 y1, .int .u32 c.pc, .slice x2 n2 y2, .slice x3 n3 y3, .slice x4 n4 y4, .slice x5 n5 y5, .int .u32 c.low, .int .i64 c.st] 32)).alloc (.cells #[.slice none 0 0, .int .u32 0, .slice none 0 0, .slice none 0 0, .slice none 0 0, .slice none 0 0, .int .u32 0, .int .i64 0] 32)).heap[w.heap.size]? = some (.cells #[.slice (some ⟨g, off, none⟩) 32 y1, .int .u32 c.pc, .slice x2 n2 y2, .slice x3 n3 y3, .slice x4 n4 y4, .slice x5 n5 y5, .int .u32 c.low, .int .i64 c.st] 32) := by
    rw [Below.heap_alloc _ _ _ (by simp)]
    exact heap_alloc_new w _
  have hI := h.boxed A4 hCb (Nat.le_refl _)
  obtain ⟨rv, d, s, i, o, hb, hr, hd, hs, hi, ho, hk, hL, hnd⟩ := id hI
  obtain rfl := Option.some.inj (hb.c0.symm.trans (Bx.of_heap hCb).c0)
  have hR := row_of hr hG.r32
  have r17 := hR.cell 17 (by have := hG.r32; omega)
  have r10 := hR.cell 10 (by have := hG.r32; omega)
  have f10 := hR.froz (off + 10)
  have hgw : g < w.heap.size := h.lt g hbk
  have e1 : ¬ g = w.heap.size := by omega
  have e2 : ¬ g = w.heap.size + 1 := by omega
  obtain ⟨k1, k2, k3⟩ := h17
  have HX : Hid _ := And.intro h (And.intro A4 (And.intro hI (Bx.of_heap hCb)))
  clear hb hr hR hd hs hi ho hk hL hnd h A4 hCb hI hbk
  generalize hx17 : c.regs.getD 17 0 = q17 at *
  generalize hx10 : c.regs.getD 10 0 = q10 at *
  go_enter Tryz.func58, Tryz.ntmps58
  go_wp2_with fail
  refine (fault_any _ L c _ (HX.out.1.below HX.out.2.1)).mono ?_
  rintro e w1 ⟨u1, rfl, cv1, hb1⟩
  obtain ⟨m1, m2, m3, m4, m5, a1, b1, a2, b2, a3, b3, a4, b4, a5, b5, rfl⟩ := cv1.shape
  have RB := (Bx.of_heap (by have := heap_alloc_new (w.alloc (.cells #[.slice (some ⟨g, off, none⟩) 32 y1, .int .u32 c.pc, .slice x2 n2 y2, .slice x3 n3 y3, .slice x4 n4 y4, .slice x5 n5 y5, .int .u32 c.low, .int .i64 c.st] 32)) (.cells #[.slice none 0 0, .int .u32 0, .slice none 0 0, .slice none 0 0, .slice none 0 0, .slice none 0 0, .int .u32 0, .int .i64 0] 32); simpa only [World.size_alloc] using this : ((w.alloc (.cells #[.slice (some ⟨g, off, none⟩) 32 y1, .int .u32 c.pc, .slice x2 n2 y2, .slice x3 n3 y3, .slice x4 n4 y4, .slice x5 n5 y5, .int .u32 c.low, .int .i64 c.st] 32)).alloc (.cells #[.slice none 0 0, .int .u32 0, .slice none 0 0, .slice none 0 0, .slice none 0 0, .slice none 0 0, .int .u32 0, .int .i64 0] 32)).heap[w.heap.size + 1]? = _)).below hb1
  obtain ⟨z0, z1, z2, z3, z4, z5, z6, z7, zf⟩ := id RB
  have HV : Hid _ := And.intro cv1 (And.intro hb1 (And.intro HX.out.1.lt HX.out.2.1))
  clear cv1 hb1 RB HX
  dsimp only
  go_wp2
  refine bodyPost_ret (v := .agg #[.slice a1 m1 b1, .int .u32 c.pc, .slice a2 m2 b2, .slice a3 m3 b3, .slice a4 m4 b4, .slice a5 m5 b5, .int .u32 c.low, .int .i64 2]) (by simp [results, Tryz.results58, go_sem, z0, z1, z2, z3, z4, z5, z6, z7]) rfl ?_
  obtain ⟨cv1, hb1, hl, A4⟩ := HV.out
  refine ⟨_, rfl, cv1.tcs ((Tcs.refl (fun k => k = w.heap.size + 1) w1).set8 _ rfl _ _ _ _ _ _ _ _) (fun g hg e => by have := hl g hg; omega), ?_⟩
  exact ((Below.tcs (S := fun x => x ∈ L) A4).of_below hb1).new8 _ (by omega) _ _ _ _ _ _ _ _


set_option maxRecDepth 8000 in
set_option maxHeartbeats 1000000 in
theorem ecFull (v : Value) (L : List Nat) (c : Mc) (w : World) (hG : Good c) (h : CpuV w v L c) (h17 : c.regs.getD 17 0 = 1) (ho1 : Hid (c.out.length = 1000000)) :
    Calls Tryz.prog 58 #[v] w fun e w' => ∃ u, e = .returned u ∧ CpuV w' u L { c with st := 2 } ∧ Tcs (fun g => g ∈ L) w w' := by
  obtain ⟨g, off, y1, n2, n3, n4, n5, x2, y2, x3, y3, x4, y4, x5, y5, rfl, hbk⟩ := h.shape32 hG.r32
  have A4 : Below w.heap.size w ((w.alloc (.cells #[.slice (some ⟨g, off, none⟩) 32 y1, .int .u32 c.pc, .slice x2 n2 y2, .slice x3 n3 y3, .slice x4 n4 y4, .slice x5 n5 y5, .int .u32 c.low, .int .i64 c.st] 32)).alloc (.cells #[.slice none 0 0, .int .u32 0, .slice none 0 0, .slice none 0 0, .slice none 0 0, .slice none 0 0, .int .u32 0, .int .i64 0] 32)) := below2 _ _ _
  have hCb : ((w.alloc (.cells #[.slice (some ⟨g, off, none⟩) 32 y1, .int .u32 c.pc, .slice x2 n2 y2, .slice x3 n3 y3, .slice x4 n4 y4, .slice x5 n5 y5, .int .u32 c.low, .int .i64 c.st] 32)).alloc (.cells #[.slice none 0 0, .int .u32 0, .slice none 0 0, .slice none 0 0, .slice none 0 0, .slice none 0 0, .int .u32 0, .int .i64 0] 32)).heap[w.heap.size]? = some (.cells #[.slice (some ⟨g, off, none⟩) 32 y1, .int .u32 c.pc, .slice x2 n2 y2, .slice x3 n3 y3, .slice x4 n4 y4, .slice x5 n5 y5, .int .u32 c.low, .int .i64 c.st] 32) := by
    rw [Below.heap_alloc _ _ _ (by simp)]
    exact heap_alloc_new w _
  have hI := h.boxed A4 hCb (Nat.le_refl _)
  obtain ⟨rv, d, s, i, o, hb, hr, hd, hs, hi, ho, hk, hL, hnd⟩ := id hI
  obtain rfl := Option.some.inj (hb.c0.symm.trans (Bx.of_heap hCb).c0)
  have hR := row_of hr hG.r32
  have r17 := hR.cell 17 (by have := hG.r32; omega)
  have r10 := hR.cell 10 (by have := hG.r32; omega)
  have f10 := hR.froz (off + 10)
  have hgw : g < w.heap.size := h.lt g hbk
  have e1 : ¬ g = w.heap.size := by omega
  have e2 : ¬ g = w.heap.size + 1 := by omega
  rw [h17] at r17
  have hn5 : n5 = c.out.length := own_len h
  have h5 : ((n5 : Int) == 1000000) = true := by have := ho1.out; rw [hn5, this]; rfl
  have h5' : (n5 : Int) = 1000000 := by have := ho1.out; omega
  clear hn5
  have HX : Hid _ := And.intro h (And.intro A4 (And.intro hI (Bx.of_heap hCb)))
  clear hb hr hR hd hs hi ho hk hL hnd h A4 hCb hI hbk
  generalize hx17 : c.regs.getD 17 0 = q17 at *
  generalize hx10 : c.regs.getD 10 0 = q10 at *
  go_enter Tryz.func58, Tryz.ntmps58
  go_wp2_with fail
  refine (fault_any _ L c _ (HX.out.1.below HX.out.2.1)).mono ?_
  rintro e w1 ⟨u1, rfl, cv1, hb1⟩
  obtain ⟨m1, m2, m3, m4, m5, a1, b1, a2, b2, a3, b3, a4, b4, a5, b5, rfl⟩ := cv1.shape
  have RB := (Bx.of_heap (by have := heap_alloc_new (w.alloc (.cells #[.slice (some ⟨g, off, none⟩) 32 y1, .int .u32 c.pc, .slice x2 n2 y2, .slice x3 n3 y3, .slice x4 n4 y4, .slice x5 n5 y5, .int .u32 c.low, .int .i64 c.st] 32)) (.cells #[.slice none 0 0, .int .u32 0, .slice none 0 0, .slice none 0 0, .slice none 0 0, .slice none 0 0, .int .u32 0, .int .i64 0] 32); simpa only [World.size_alloc] using this : ((w.alloc (.cells #[.slice (some ⟨g, off, none⟩) 32 y1, .int .u32 c.pc, .slice x2 n2 y2, .slice x3 n3 y3, .slice x4 n4 y4, .slice x5 n5 y5, .int .u32 c.low, .int .i64 c.st] 32)).alloc (.cells #[.slice none 0 0, .int .u32 0, .slice none 0 0, .slice none 0 0, .slice none 0 0, .slice none 0 0, .int .u32 0, .int .i64 0] 32)).heap[w.heap.size + 1]? = _)).below hb1
  obtain ⟨z0, z1, z2, z3, z4, z5, z6, z7, zf⟩ := id RB
  have HV : Hid _ := And.intro cv1 (And.intro hb1 (And.intro HX.out.1.lt HX.out.2.1))
  clear cv1 hb1 RB HX
  dsimp only
  go_wp2
  refine bodyPost_ret (v := .agg #[.slice a1 m1 b1, .int .u32 c.pc, .slice a2 m2 b2, .slice a3 m3 b3, .slice a4 m4 b4, .slice a5 m5 b5, .int .u32 c.low, .int .i64 2]) (by simp [results, Tryz.results58, go_sem, z0, z1, z2, z3, z4, z5, z6, z7]) rfl ?_
  obtain ⟨cv1, hb1, hl, A4⟩ := HV.out
  refine ⟨_, rfl, cv1.tcs ((Tcs.refl (fun k => k = w.heap.size + 1) w1).set8 _ rfl _ _ _ _ _ _ _ _) (fun g hg e => by have := hl g hg; omega), ?_⟩
  exact ((Below.tcs (S := fun x => x ∈ L) A4).of_below hb1).new8 _ (by omega) _ _ _ _ _ _ _ _

end Go.Proofs.YtabjcodpagjbjaaGreat

namespace Go.Proofs.YtabjcodpagjbjaaGreat
open Go.RowKit
set_option linter.unusedVariables false
set_option linter.unusedSimpArgs false

set_option maxRecDepth 8000 in
set_option maxHeartbeats 1000000 in
theorem cs_else (C : Nat) (L : List Nat) (c : Mc) (w : World) (hG : Good c) (h : CpuIn w C L c) (h17 : ¬ c.regs.getD 17 0 = 1 ∧ ¬ c.regs.getD 17 0 = 2 ∧ ¬ c.regs.getD 17 0 = 10) :
    Calls Tryz.prog 68 #[.pointer (some ⟨C, 0, none⟩)] w fun e w' => e = .returned (.bool false) ∧ CpuIn w' C L c ∧ Tcs (fun g => g ∈ L) w w' := by
  obtain ⟨rv, d, s, i, o, hb, hr, hd, hs, hi, ho, hk, hL, hnd⟩ := id h
  obtain ⟨g, off, cap, rfl, hR, hbk⟩ := lis_some hr (by have := hG.r32; omega)
  have e32 := hG.r32
  have c0 := hb.c0
  rw [e32] at c0
  have r17 := hR.cell 17 (by omega)
  have r10 := hR.cell 10 (by omega)
  have f10 := hR.froz (off + 10)
  have HE : Hid (CpuIn w C L c) := h
  obtain ⟨k1, k2, k3⟩ := h17
  clear hb hr hR hd hs hi ho hk hL hnd hbk h
  generalize c.regs.getD 17 0 = x17 at *
  go_enter Tryz.func68, Tryz.ntmps68
  go_wp2
  go_ret
  exact ⟨rfl, HE.out, Tcs.refl _ _⟩


set_option maxRecDepth 8000 in
set_option maxHeartbeats 1000000 in
theorem cs_full (C : Nat) (L : List Nat) (c : Mc) (w : World) (hG : Good c) (h : CpuIn w C L c) (h17 : c.regs.getD 17 0 = 1) (ho1 : 1000000 ≤ c.out.length) :
    Calls Tryz.prog 68 #[.pointer (some ⟨C, 0, none⟩)] w fun e w' => e = .returned (.bool false) ∧ CpuIn w' C L c ∧ Tcs (fun g => g ∈ L) w w' := by
  obtain ⟨rv, d, s, i, o, hb, hr, hd, hs, hi, ho, hk, hL, hnd⟩ := id h
  obtain ⟨g, off, cap, rfl, hR, hbk⟩ := lis_some hr (by have := hG.r32; omega)
  have e32 := hG.r32
  have c0 := hb.c0
  rw [e32] at c0
  have r17 := hR.cell 17 (by omega)
  have r10 := hR.cell 10 (by omega)
  have f10 := hR.froz (off + 10)
  obtain ⟨xo, yo, rfl⟩ := own_slice ho
  have c5 := hb.c5
  rw [h17] at r17
  have HE : Hid (CpuIn w C L c) := h
  have HQ : Hid (CpuIn w C L c → CpuIn w C L c ∧ Tcs (fun g => g ∈ L) w w) := fun h => ⟨h, Tcs.refl _ _⟩
  have ho2 : (1000000 : Int) ≤ (c.out.length : Int) := by omega
  clear hb hr hR hd hs hi ho hk hL hnd hbk h ho1
  generalize c.out.length = no at *
  go_enter Tryz.func68, Tryz.ntmps68
  go_wp2
  go_ret
  exact ⟨rfl, HE.out, Tcs.refl _ _⟩


set_option maxRecDepth 8000 in
set_option maxHeartbeats 1000000 in
theorem cs_halt (C : Nat) (L : List Nat) (c : Mc) (w : World) (hG : Good c) (h : CpuIn w C L c) (h17 : c.regs.getD 17 0 = 10) :
    Calls Tryz.prog 68 #[.pointer (some ⟨C, 0, none⟩)] w fun e w' => e = .returned (.bool true) ∧ CpuIn w' C L { c with st := 1 } ∧ Tcs (fun g => g ∈ L) w w' := by
  obtain ⟨rv, d, s, i, o, hb, hr, hd, hs, hi, ho, hk, hL, hnd⟩ := id h
  obtain ⟨g, off, cap, rfl, hR, hbk⟩ := lis_some hr (by have := hG.r32; omega)
  have e32 := hG.r32
  have c0 := hb.c0
  rw [e32] at c0
  have r17 := hR.cell 17 (by omega)
  have r10 := hR.cell 10 (by omega)
  have f10 := hR.froz (off + 10)
  have f7 := hb.fz 7
  have c7 := hb.c7
  rw [h17] at r17
  have HE : Hid (CpuIn w C L c) := h
  clear hb hr hR hd hs hi ho hk hL hnd hbk h
  go_enter Tryz.func68, Tryz.ntmps68
  go_wp2
  go_ret
  exact ⟨rfl, HE.out.stt 1, (Tcs.refl _ _).setCell HE.out.mem _⟩


set_option maxRecDepth 8000 in
set_option maxHeartbeats 1000000 in
theorem cs_in0 (C : Nat) (L : List Nat) (c : Mc) (w : World) (hG : Good c) (h : CpuIn w C L c) (h17 : c.regs.getD 17 0 = 2) (hi0 : c.inn = []) :
    Calls Tryz.prog 68 #[.pointer (some ⟨C, 0, none⟩)] w fun e w' => e = .returned (.bool true) ∧ CpuIn w' C L { c with regs := c.regs.set 10 0 } ∧ Tcs (fun g => g ∈ L) w w' := by
  obtain ⟨rv, d, s, i, o, hb, hr, hd, hs, hi, ho, hk, hL, hnd⟩ := id h
  obtain ⟨g, off, cap, rfl, hR, hbk⟩ := lis_some hr (by have := hG.r32; omega)
  have e32 := hG.r32
  have c0 := hb.c0
  rw [e32] at c0
  have r17 := hR.cell 17 (by omega)
  have r10 := hR.cell 10 (by omega)
  have f10 := hR.froz (off + 10)
  obtain ⟨xi, yi, rfl⟩ := hi.len0
  have c4 := hb.c4
  rw [hi0] at c4
  rw [h17] at r17
  have hgC : ¬ C = g := by
    intro e
    rw [hL, hbk, e] at hnd
    simp at hnd
  have hgC' : ¬ g = C := fun e => hgC e.symm
  have HE : Hid _ := And.intro hb (And.intro hR (And.intro hd (And.intro hs (And.intro hi (And.intro ho (And.intro hL (And.intro hnd (And.intro hbk hk))))))))
  clear hb hr hR hd hs hi ho hk hL hnd hbk h
  go_enter Tryz.func68, Tryz.ntmps68
  go_wp2
  go_ret
  obtain ⟨hb, hR, hd, hs, hi, ho, hL, hnd, hbk, hk⟩ := HE.out
  refine ⟨rfl, CpuIn.regs hb hd hs hi ho hL hnd hk (by omega) ((Tcs.refl (fun x => x = g) w).setCell (p := ⟨g, off + 10, none⟩) rfl _) (by simp) (hR.set (by omega)), ?_⟩
  refine (Tcs.refl (fun x => x ∈ L) w).setCell (p := ⟨g, off + 10, none⟩) ?_ _
  show g ∈ L
  rw [hL, hbk]
  simp

end Go.Proofs.YtabjcodpagjbjaaGreat
