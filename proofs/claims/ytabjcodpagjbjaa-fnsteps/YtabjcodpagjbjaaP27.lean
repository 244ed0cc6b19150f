import Derived.Deep.RegionHeld3
import Derived.Deep.Cut
import Derived.Test.YtabjcodpagjbjaaP26
import Derived.Test.YtabjcodpagjbjaaP07
namespace Go.Proofs.Ytabjcodpagjbjaa
open Go.RowKit
set_option linter.unusedVariables false
set_option linter.unusedSimpArgs false

theorem Row.below {k : IntKind} {w w' : World} {g off : Nat} {zs : List Int} (h : Row k w g off zs) (hb : Below w.heap.size w w') : Row k w' g off zs := h.keep hb.size (hb.block g h.lt)


set_option maxRecDepth 8000 in
set_option maxHeartbeats 1000000 in
theorem memLD1 (ma : Option Addr) (mn mc' : Nat) (md mb : Int) (v : Value) (L : List Nat) (c : Mc)  (rd s1 s2 : Nat) (im : Int) (w : World) (hG : Good c) (h : CpuV w v L c) (m : Nat) (h0 : 0 < rd) (hrd : rd < 32) (h1 : s1 < 32) (h2 : s2 < 32)
    (hmb : mb = (c.stack.length : Int)) (hm : inD c ((c.regs.getD s1 0 + im) % 4294967296) m) :
    Calls Try.prog 79 #[.agg #[.slice ma mn mc', .int .i64 md, .int .i64 mb], v, .agg #[.int .i64 10, .int .i64 rd, .int .i64 s1, .int .i64 s2, .int .i64 im]] w fun e w' =>
      ∃ u, e = .returned u ∧ CpuV w' u L { setR c rd (word4 c.data m) with pc := (c.pc + 4) % 4294967296 } ∧ Tcs (fun g => g ∈ L) w w' := by
  obtain ⟨g, off, y1, n2, n3, n4, n5, x2, y2, x3, y3, x4, y4, x5, y5, rfl, hbk⟩ := h.shape32 hG.r32
  have A4 : Below w.heap.size w ((((w.alloc (.cells #[.slice ma mn mc', .int .i64 md, .int .i64 mb] 25)).alloc (.cells #[.slice (some ⟨g, off, none⟩) 32 y1, .int .u32 c.pc, .slice x2 n2 y2, .slice x3 n3 y3, .slice x4 n4 y4, .slice x5 n5 y5, .int .u32 c.low, .int .i64 c.st] 32)).alloc (.cells #[.int .i64 10, .int .i64 rd, .int .i64 s1, .int .i64 s2, .int .i64 im] 64)).alloc (.cells #[.slice none 0 0, .int .u32 0, .slice none 0 0, .slice none 0 0, .slice none 0 0, .slice none 0 0, .int .u32 0, .int .i64 0] 32)) := ((((Below.refl _ _).alloc (Nat.le_refl _) _).alloc (by simp) _).alloc (by simp; omega) _).alloc (by simp; omega) _
  have hCb : ((((w.alloc (.cells #[.slice ma mn mc', .int .i64 md, .int .i64 mb] 25)).alloc (.cells #[.slice (some ⟨g, off, none⟩) 32 y1, .int .u32 c.pc, .slice x2 n2 y2, .slice x3 n3 y3, .slice x4 n4 y4, .slice x5 n5 y5, .int .u32 c.low, .int .i64 c.st] 32)).alloc (.cells #[.int .i64 10, .int .i64 rd, .int .i64 s1, .int .i64 s2, .int .i64 im] 64)).alloc (.cells #[.slice none 0 0, .int .u32 0, .slice none 0 0, .slice none 0 0, .slice none 0 0, .slice none 0 0, .int .u32 0, .int .i64 0] 32)).heap[w.heap.size + 1]? = some (.cells #[.slice (some ⟨g, off, none⟩) 32 y1, .int .u32 c.pc, .slice x2 n2 y2, .slice x3 n3 y3, .slice x4 n4 y4, .slice x5 n5 y5, .int .u32 c.low, .int .i64 c.st] 32) := by
    rw [Below.heap_alloc _ _ _ (by simp), Below.heap_alloc _ _ _ (by simp)]
    have := heap_alloc_new (w.alloc (.cells #[.slice ma mn mc', .int .i64 md, .int .i64 mb] 25)) (.cells #[.slice (some ⟨g, off, none⟩) 32 y1, .int .u32 c.pc, .slice x2 n2 y2, .slice x3 n3 y3, .slice x4 n4 y4, .slice x5 n5 y5, .int .u32 c.low, .int .i64 c.st] 32)
    simpa only [World.size_alloc] using this
  have hI := h.boxed A4 hCb (by omega)
  obtain ⟨rv, d, s, i, o, hb, hr, hd, hs, hi, ho, hk, hL, hnd⟩ := id hI
  obtain rfl := Option.some.inj (hb.c0.symm.trans (Bx.of_heap hCb).c0)
  have hR := row_of hr hG.r32
  have cs1 := hR.cell s1 (by have := hG.r32; omega)
  have cs2 := hR.cell s2 (by have := hG.r32; omega)
  have hgw : g < w.heap.size := h.lt g hbk
  have e1 : ¬ g = w.heap.size := by omega
  have e2 : ¬ g = w.heap.size + 1 := by omega
  have e3 : ¬ g = w.heap.size + 1 + 1 := by omega
  have e4 : ¬ g = w.heap.size + 1 + 1 + 1 := by omega
  have cR := hR.cell rd (by have := hG.r32; omega)
  have fR := hR.froz (off + rd)
  have hn2 : n2 = c.data.length := (dat_len h).1
  have hn3 : n3 = c.stack.length := (stk_len h).1
  have hu1 := hG.ru s1 h1
  have hu2 := hG.ru s2 h2
  have hdl := hG.dl
  have hsl := hG.sl
  obtain ⟨hm4, hmA, hml⟩ := hm
  obtain ⟨gd, od, rfl, hRd, hgdL, hgdr⟩ := dat_row h (by omega)
  have hgdg : gd ≠ g := hgdr g (by simp [blk])
  have hgdw : gd < w.heap.size := h.lt gd hgdL
  have f1 : ¬ gd = w.heap.size := by omega
  have f2 : ¬ gd = w.heap.size + 1 := by omega
  have f3 : ¬ gd = w.heap.size + 1 + 1 := by omega
  have f4 : ¬ gd = w.heap.size + 1 + 1 + 1 := by omega
  have HR : Hid (Row .u8 w gd od c.data) := hRd
  have d0 := hG.du m (by omega)
  have d1 := hG.du (m + 1) (by omega)
  have d2 := hG.du (m + 2) (by omega)
  have d3 := hG.du (m + 3) (by omega)
  rw [← hn3] at hmb
  subst hmb
  rw [← hn2] at hml
  skip
  have HN : Hid _ := And.intro hn2 (And.intro hn3 (And.intro hm4 (And.intro hmA (And.intro hml (And.intro hdl hsl)))))
  have hs1 : (s1 : Int) < 32 := by omega
  have hs1' : (0 : Int) ≤ (s1 : Int) := by omega
  have hs2 : (s2 : Int) < 32 := by omega
  have hs2' : (0 : Int) ≤ (s2 : Int) := by omega
  have hrd1 : (rd : Int) < 32 := by omega
  have hrd1' : (0 : Int) ≤ (rd : Int) := by omega
  have hrd0 : (0 : Int) < (rd : Int) := by omega
  have hdl2 : (n2 : Int) ≤ 65536 := by omega
  have hsl2 : (n3 : Int) ≤ 1000000 := by omega
  clear hn2 hn3 hdl hsl hm4 hmA hml hRd hgdr
  have HX : Hid _ := And.intro h (And.intro A4 (And.intro hI (Bx.of_heap hCb)))
  clear hb hr hR hd hs hi ho hk hL hnd h A4 hCb hI hbk
  generalize hx1 : c.regs.getD s1 0 = a at *
  generalize hx2 : c.regs.getD s2 0 = b at *
  go_enter Try.func79, Try.ntmps79
  go_wp2_with fail
  have hW : ∃ W, W = ((((w.alloc (.cells #[.slice ma mn mc', .int .i64 md, .int .i64 (n3 : Int)] 25)).alloc (.cells #[.slice (some ⟨g, off, none⟩) 32 y1, .int .u32 c.pc, .slice (some ⟨gd, od, none⟩) n2 y2, .slice x3 n3 y3, .slice x4 n4 y4, .slice x5 n5 y5, .int .u32 c.low, .int .i64 c.st] 32)).alloc (.cells #[.int .i64 10, .int .i64 rd, .int .i64 s1, .int .i64 s2, .int .i64 im] 64)).alloc (.cells #[.slice none 0 0, .int .u32 0, .slice none 0 0, .slice none 0 0, .slice none 0 0, .slice none 0 0, .int .u32 0, .int .i64 0] 32)) := ⟨_, rfl⟩
  obtain ⟨W, hW⟩ := hW
  rw [← hW]
  have u1 : W.heap[w.heap.size]? = some (.cells #[.slice ma mn mc', .int .i64 md, .int .i64 (n3 : Int)] 25) := by
    rw [hW, Below.heap_alloc _ _ _ (by simp; omega), Below.heap_alloc _ _ _ (by simp; omega), Below.heap_alloc _ _ _ (by simp)]
    exact heap_alloc_new _ _
  have u3 : W.heap[w.heap.size + 1 + 1]? = some (.cells #[.int .i64 10, .int .i64 rd, .int .i64 s1, .int .i64 s2, .int .i64 im] 64) := by
    rw [hW, Below.heap_alloc _ _ _ (by simp)]
    have := heap_alloc_new ((w.alloc (.cells #[.slice ma mn mc', .int .i64 md, .int .i64 (n3 : Int)] 25)).alloc (.cells #[.slice (some ⟨g, off, none⟩) 32 y1, .int .u32 c.pc, .slice (some ⟨gd, od, none⟩) n2 y2, .slice x3 n3 y3, .slice x4 n4 y4, .slice x5 n5 y5, .int .u32 c.low, .int .i64 c.st] 32)) (.cells #[.int .i64 10, .int .i64 rd, .int .i64 s1, .int .i64 s2, .int .i64 im] 64)
    simpa only [World.size_alloc] using this
  have u4 : W.heap[w.heap.size + 1 + 1 + 1]? = some (.cells #[.slice none 0 0, .int .u32 0, .slice none 0 0, .slice none 0 0, .slice none 0 0, .slice none 0 0, .int .u32 0, .int .i64 0] 32) := by
    rw [hW]
    have := heap_alloc_new (((w.alloc (.cells #[.slice ma mn mc', .int .i64 md, .int .i64 (n3 : Int)] 25)).alloc (.cells #[.slice (some ⟨g, off, none⟩) 32 y1, .int .u32 c.pc, .slice (some ⟨gd, od, none⟩) n2 y2, .slice x3 n3 y3, .slice x4 n4 y4, .slice x5 n5 y5, .int .u32 c.low, .int .i64 c.st] 32)).alloc (.cells #[.int .i64 10, .int .i64 rd, .int .i64 s1, .int .i64 s2, .int .i64 im] 64)) (.cells #[.slice none 0 0, .int .u32 0, .slice none 0 0, .slice none 0 0, .slice none 0 0, .slice none 0 0, .int .u32 0, .int .i64 0] 32)
    simpa only [World.size_alloc] using this
  have hsz : W.heap.size = w.heap.size + 4 := by rw [hW]; simp
  have q2 := cell_of u1 (j := 2) rfl
  have p0 := cell_of u3 (j := 0) rfl
  have p1 := cell_of u3 (j := 1) rfl
  have p2 := cell_of u3 (j := 2) rfl
  have p3 := cell_of u3 (j := 3) rfl
  have p4 := cell_of u3 (j := 4) rfl
  rw [← hW] at HX cs1 cs2 cR fR
  have B1 := HX.out.2.2.2
  have B4 := Bx.of_heap u4
  obtain ⟨c0, c1, c2, c3, c4, c5, c6, c7, cf⟩ := id B1
  obtain ⟨z0, z1, z2, z3, z4, z5, z6, z7, zf⟩ := id B4
  have HW : Hid _ := And.intro hsz (And.intro B1 B4)
  clear hW u1 u3 u4 B1 B4 hsz
  have BW := HX.out.2.1
  have r0 := (HR.out.below BW).cell m (by have := HN.out; omega)
  have r1 := (HR.out.below BW).cell (m + 1) (by have := HN.out; omega)
  have r2 := (HR.out.below BW).cell (m + 2) (by have := HN.out; omega)
  have r3 := (HR.out.below BW).cell (m + 3) (by have := HN.out; omega)
  have fz := (HR.out.below BW).froz
  clear BW
  generalize hb0 : c.data.getD m 0 = b0 at *
  generalize hb1 : c.data.getD (m + 1) 0 = b1 at *
  generalize hb2 : c.data.getD (m + 2) 0 = b2 at *
  generalize hb3 : c.data.getD (m + 3) 0 = b3 at *
  go_region_held3 (fun W => W.cell? ⟨w.heap.size + 1, 0, none⟩ = some (.slice (some ⟨g, off, none⟩) 32 y1) ∧ W.cell? ⟨w.heap.size + 1 + 1, 2, none⟩ = some (.int .i64 (s1 : Int)) ∧ W.cell? ⟨w.heap.size + 1 + 1, 4, none⟩ = some (.int .i64 im) ∧ W.cell? ⟨g, off + s1, none⟩ = some (.int .u32 a)) (go_simp) (fail)
  obtain ⟨hn2, hn3, hm4, hmA, hml, hdl, hsl⟩ := HN.out
  rw [hmA] at hm4
  have hv : IntKind.i64.wrap (IntKind.u32.wrap (a + IntKind.u32.wrap im)) = 1048576 + (m : Int) := by
    simp only [IntKind.wrap_u32, IntKind.wrap_i64]
    omega
  rw [hv]
  have i0 : (m : Int) + 4 ≤ (n2 : Int) := by omega
  have i1 : (0 : Int) ≤ (m : Int) := by omega
  have ht4 : Int.tmod (1048576 + (m : Int)) 4 = 0 := by rw [Int.tmod_eq_emod_of_nonneg (by omega)]; omega
  have HM : Hid _ := And.intro hml (And.intro hdl (And.intro hsl (And.intro hm4 (And.intro hmA (And.intro hn2 hn3)))))
  clear hn2 hn3 hm4 hml hdl hsl HN hmA hv
  go_upto_region 4 with fail
  rw [show (1048576 + (m : Int) - 1048576) = (m : Int) by omega]
  go_wp2_with fail
  refine wp_loop_rounds 5 ?_
  rw [rounds_succ]
  go_wp2_with fail
  rw [rounds_succ]
  go_wp2_with fail
  rw [rounds_succ]
  go_wp2_with fail
  rw [rounds_succ]
  go_wp2_with fail
  rw [rounds_succ]
  go_wp2_with fail
  refine bodyPost_ret (v := .agg #[.slice (some ⟨g, off, none⟩) 32 y1, .int .u32 ((c.pc + 4) % 4294967296), .slice (some ⟨gd, od, none⟩) n2 y2, .slice x3 n3 y3, .slice x4 n4 y4, .slice x5 n5 y5, .int .u32 c.low, .int .i64 c.st]) (by simp [results, Try.results79, go_sem, z0, z1, z2, z3, z4, z5, z6, z7]) rfl ?_
  obtain ⟨hv, A4, hI, hb⟩ := HX.out
  have hl := hv.lt
  obtain ⟨k0, hgL⟩ := (hv.below A4).set (rd := rd) (v := 256 * (256 * (256 * b3 + b2) + b1) + b0) hG.r32 hrd
  have T := fun (W9 : World) => ((Tcs.refl (fun k => w.heap.size ≤ k) W9).setCell (p := ⟨w.heap.size + 1, 1, none⟩) (by show _ ≤ _; dsimp only; omega) (.int .u32 ((c.pc + 4) % 4294967296))).set8 (w.heap.size + 1 + 1 + 1) (by omega) (.slice (some ⟨g, off, none⟩) 32 y1) (.int .u32 ((c.pc + 4) % 4294967296)) (.slice (some ⟨gd, od, none⟩) n2 y2) (.slice x3 n3 y3) (.slice x4 n4 y4) (.slice x5 n5 y5) (.int .u32 c.low) (.int .i64 c.st) |>.drewN 1
  have k3 := (k0.tcs (T _) (fun x hx h => by have := hl x hx; omega)).pc ((c.pc + 4) % 4294967296)
  have hw : word4 c.data m = 256 * (256 * (256 * b3 + b2) + b1) + b0 := by unfold word4; rw [hb0, hb1, hb2, hb3]; omega
  refine ⟨_, rfl, ?_, ?_⟩
  · rw [hw, show setR c (rd : Int) (256 * (256 * (256 * b3 + b2) + b1) + b0) = { c with regs := c.regs.set rd (256 * (256 * (256 * b3 + b2) + b1) + b0) } by unfold setR; rw [if_neg (by omega)]; rfl]
    exact k3
  · exact (((Below.tcs (S := fun x => x ∈ L) A4).setCell (p := ⟨g, off + rd, none⟩) hgL _).setNew (p := ⟨w.heap.size + 1, 1, none⟩) (by dsimp only; omega) _).new8 _ (by omega) _ _ _ _ _ _ _ _ |>.drewN 1


set_option maxRecDepth 8000 in
set_option maxHeartbeats 1000000 in
theorem memLD0 (ma : Option Addr) (mn mc' : Nat) (md mb : Int) (v : Value) (L : List Nat) (c : Mc)  (s1 s2 : Nat) (im : Int) (w : World) (hG : Good c) (h : CpuV w v L c) (m : Nat) (h1 : s1 < 32) (h2 : s2 < 32)
    (hmb : mb = (c.stack.length : Int)) (hm : inD c ((c.regs.getD s1 0 + im) % 4294967296) m) :
    Calls Try.prog 79 #[.agg #[.slice ma mn mc', .int .i64 md, .int .i64 mb], v, .agg #[.int .i64 10, .int .i64 0, .int .i64 s1, .int .i64 s2, .int .i64 im]] w fun e w' =>
      ∃ u, e = .returned u ∧ CpuV w' u L { setR c 0 (word4 c.data m) with pc := (c.pc + 4) % 4294967296 } ∧ Tcs (fun g => g ∈ L) w w' := by
  obtain ⟨g, off, y1, n2, n3, n4, n5, x2, y2, x3, y3, x4, y4, x5, y5, rfl, hbk⟩ := h.shape32 hG.r32
  have A4 : Below w.heap.size w ((((w.alloc (.cells #[.slice ma mn mc', .int .i64 md, .int .i64 mb] 25)).alloc (.cells #[.slice (some ⟨g, off, none⟩) 32 y1, .int .u32 c.pc, .slice x2 n2 y2, .slice x3 n3 y3, .slice x4 n4 y4, .slice x5 n5 y5, .int .u32 c.low, .int .i64 c.st] 32)).alloc (.cells #[.int .i64 10, .int .i64 0, .int .i64 s1, .int .i64 s2, .int .i64 im] 64)).alloc (.cells #[.slice none 0 0, .int .u32 0, .slice none 0 0, .slice none 0 0, .slice none 0 0, .slice none 0 0, .int .u32 0, .int .i64 0] 32)) := ((((Below.refl _ _).alloc (Nat.le_refl _) _).alloc (by simp) _).alloc (by simp; omega) _).alloc (by simp; omega) _
  have hCb : ((((w.alloc (.cells #[.slice ma mn mc', .int .i64 md, .int .i64 mb] 25)).alloc (.cells #[.slice (some ⟨g, off, none⟩) 32 y1, .int .u32 c.pc, .slice x2 n2 y2, .slice x3 n3 y3, .slice x4 n4 y4, .slice x5 n5 y5, .int .u32 c.low, .int .i64 c.st] 32)).alloc (.cells #[.int .i64 10, .int .i64 0, .int .i64 s1, .int .i64 s2, .int .i64 im] 64)).alloc (.cells #[.slice none 0 0, .int .u32 0, .slice none 0 0, .slice none 0 0, .slice none 0 0, .slice none 0 0, .int .u32 0, .int .i64 0] 32)).heap[w.heap.size + 1]? = some (.cells #[.slice (some ⟨g, off, none⟩) 32 y1, .int .u32 c.pc, .slice x2 n2 y2, .slice x3 n3 y3, .slice x4 n4 y4, .slice x5 n5 y5, .int .u32 c.low, .int .i64 c.st] 32) := by
    rw [Below.heap_alloc _ _ _ (by simp), Below.heap_alloc _ _ _ (by simp)]
    have := heap_alloc_new (w.alloc (.cells #[.slice ma mn mc', .int .i64 md, .int .i64 mb] 25)) (.cells #[.slice (some ⟨g, off, none⟩) 32 y1, .int .u32 c.pc, .slice x2 n2 y2, .slice x3 n3 y3, .slice x4 n4 y4, .slice x5 n5 y5, .int .u32 c.low, .int .i64 c.st] 32)
    simpa only [World.size_alloc] using this
  have hI := h.boxed A4 hCb (by omega)
  obtain ⟨rv, d, s, i, o, hb, hr, hd, hs, hi, ho, hk, hL, hnd⟩ := id hI
  obtain rfl := Option.some.inj (hb.c0.symm.trans (Bx.of_heap hCb).c0)
  have hR := row_of hr hG.r32
  have cs1 := hR.cell s1 (by have := hG.r32; omega)
  have cs2 := hR.cell s2 (by have := hG.r32; omega)
  have hgw : g < w.heap.size := h.lt g hbk
  have e1 : ¬ g = w.heap.size := by omega
  have e2 : ¬ g = w.heap.size + 1 := by omega
  have e3 : ¬ g = w.heap.size + 1 + 1 := by omega
  have e4 : ¬ g = w.heap.size + 1 + 1 + 1 := by omega
  have cR := hR.cell 0 (by have := hG.r32; omega)
  have fR := hR.froz (off + 0)
  have hn2 : n2 = c.data.length := (dat_len h).1
  have hn3 : n3 = c.stack.length := (stk_len h).1
  have hu1 := hG.ru s1 h1
  have hu2 := hG.ru s2 h2
  have hdl := hG.dl
  have hsl := hG.sl
  obtain ⟨hm4, hmA, hml⟩ := hm
  obtain ⟨gd, od, rfl, hRd, hgdL, hgdr⟩ := dat_row h (by omega)
  have hgdg : gd ≠ g := hgdr g (by simp [blk])
  have hgdw : gd < w.heap.size := h.lt gd hgdL
  have f1 : ¬ gd = w.heap.size := by omega
  have f2 : ¬ gd = w.heap.size + 1 := by omega
  have f3 : ¬ gd = w.heap.size + 1 + 1 := by omega
  have f4 : ¬ gd = w.heap.size + 1 + 1 + 1 := by omega
  have HR : Hid (Row .u8 w gd od c.data) := hRd
  have d0 := hG.du m (by omega)
  have d1 := hG.du (m + 1) (by omega)
  have d2 := hG.du (m + 2) (by omega)
  have d3 := hG.du (m + 3) (by omega)
  rw [← hn3] at hmb
  subst hmb
  rw [← hn2] at hml
  skip
  have HN : Hid _ := And.intro hn2 (And.intro hn3 (And.intro hm4 (And.intro hmA (And.intro hml (And.intro hdl hsl)))))
  have hs1 : (s1 : Int) < 32 := by omega
  have hs1' : (0 : Int) ≤ (s1 : Int) := by omega
  have hs2 : (s2 : Int) < 32 := by omega
  have hs2' : (0 : Int) ≤ (s2 : Int) := by omega
  skip
  have hdl2 : (n2 : Int) ≤ 65536 := by omega
  have hsl2 : (n3 : Int) ≤ 1000000 := by omega
  clear hn2 hn3 hdl hsl hm4 hmA hml hRd hgdr
  have HX : Hid _ := And.intro h (And.intro A4 (And.intro hI (Bx.of_heap hCb)))
  clear hb hr hR hd hs hi ho hk hL hnd h A4 hCb hI hbk
  generalize hx1 : c.regs.getD s1 0 = a at *
  generalize hx2 : c.regs.getD s2 0 = b at *
  go_enter Try.func79, Try.ntmps79
  go_wp2_with fail
  have hW : ∃ W, W = ((((w.alloc (.cells #[.slice ma mn mc', .int .i64 md, .int .i64 (n3 : Int)] 25)).alloc (.cells #[.slice (some ⟨g, off, none⟩) 32 y1, .int .u32 c.pc, .slice (some ⟨gd, od, none⟩) n2 y2, .slice x3 n3 y3, .slice x4 n4 y4, .slice x5 n5 y5, .int .u32 c.low, .int .i64 c.st] 32)).alloc (.cells #[.int .i64 10, .int .i64 0, .int .i64 s1, .int .i64 s2, .int .i64 im] 64)).alloc (.cells #[.slice none 0 0, .int .u32 0, .slice none 0 0, .slice none 0 0, .slice none 0 0, .slice none 0 0, .int .u32 0, .int .i64 0] 32)) := ⟨_, rfl⟩
  obtain ⟨W, hW⟩ := hW
  rw [← hW]
  have u1 : W.heap[w.heap.size]? = some (.cells #[.slice ma mn mc', .int .i64 md, .int .i64 (n3 : Int)] 25) := by
    rw [hW, Below.heap_alloc _ _ _ (by simp; omega), Below.heap_alloc _ _ _ (by simp; omega), Below.heap_alloc _ _ _ (by simp)]
    exact heap_alloc_new _ _
  have u3 : W.heap[w.heap.size + 1 + 1]? = some (.cells #[.int .i64 10, .int .i64 0, .int .i64 s1, .int .i64 s2, .int .i64 im] 64) := by
    rw [hW, Below.heap_alloc _ _ _ (by simp)]
    have := heap_alloc_new ((w.alloc (.cells #[.slice ma mn mc', .int .i64 md, .int .i64 (n3 : Int)] 25)).alloc (.cells #[.slice (some ⟨g, off, none⟩) 32 y1, .int .u32 c.pc, .slice (some ⟨gd, od, none⟩) n2 y2, .slice x3 n3 y3, .slice x4 n4 y4, .slice x5 n5 y5, .int .u32 c.low, .int .i64 c.st] 32)) (.cells #[.int .i64 10, .int .i64 0, .int .i64 s1, .int .i64 s2, .int .i64 im] 64)
    simpa only [World.size_alloc] using this
  have u4 : W.heap[w.heap.size + 1 + 1 + 1]? = some (.cells #[.slice none 0 0, .int .u32 0, .slice none 0 0, .slice none 0 0, .slice none 0 0, .slice none 0 0, .int .u32 0, .int .i64 0] 32) := by
    rw [hW]
    have := heap_alloc_new (((w.alloc (.cells #[.slice ma mn mc', .int .i64 md, .int .i64 (n3 : Int)] 25)).alloc (.cells #[.slice (some ⟨g, off, none⟩) 32 y1, .int .u32 c.pc, .slice (some ⟨gd, od, none⟩) n2 y2, .slice x3 n3 y3, .slice x4 n4 y4, .slice x5 n5 y5, .int .u32 c.low, .int .i64 c.st] 32)).alloc (.cells #[.int .i64 10, .int .i64 0, .int .i64 s1, .int .i64 s2, .int .i64 im] 64)) (.cells #[.slice none 0 0, .int .u32 0, .slice none 0 0, .slice none 0 0, .slice none 0 0, .slice none 0 0, .int .u32 0, .int .i64 0] 32)
    simpa only [World.size_alloc] using this
  have hsz : W.heap.size = w.heap.size + 4 := by rw [hW]; simp
  have q2 := cell_of u1 (j := 2) rfl
  have p0 := cell_of u3 (j := 0) rfl
  have p1 := cell_of u3 (j := 1) rfl
  have p2 := cell_of u3 (j := 2) rfl
  have p3 := cell_of u3 (j := 3) rfl
  have p4 := cell_of u3 (j := 4) rfl
  rw [← hW] at HX cs1 cs2 cR fR
  have B1 := HX.out.2.2.2
  have B4 := Bx.of_heap u4
  obtain ⟨c0, c1, c2, c3, c4, c5, c6, c7, cf⟩ := id B1
  obtain ⟨z0, z1, z2, z3, z4, z5, z6, z7, zf⟩ := id B4
  have HW : Hid _ := And.intro hsz (And.intro B1 B4)
  clear hW u1 u3 u4 B1 B4 hsz
  have BW := HX.out.2.1
  have r0 := (HR.out.below BW).cell m (by have := HN.out; omega)
  have r1 := (HR.out.below BW).cell (m + 1) (by have := HN.out; omega)
  have r2 := (HR.out.below BW).cell (m + 2) (by have := HN.out; omega)
  have r3 := (HR.out.below BW).cell (m + 3) (by have := HN.out; omega)
  have fz := (HR.out.below BW).froz
  clear BW
  generalize hb0 : c.data.getD m 0 = b0 at *
  generalize hb1 : c.data.getD (m + 1) 0 = b1 at *
  generalize hb2 : c.data.getD (m + 2) 0 = b2 at *
  generalize hb3 : c.data.getD (m + 3) 0 = b3 at *
  go_region_held3 (fun W => W.cell? ⟨w.heap.size + 1, 0, none⟩ = some (.slice (some ⟨g, off, none⟩) 32 y1) ∧ W.cell? ⟨w.heap.size + 1 + 1, 2, none⟩ = some (.int .i64 (s1 : Int)) ∧ W.cell? ⟨w.heap.size + 1 + 1, 4, none⟩ = some (.int .i64 im) ∧ W.cell? ⟨g, off + s1, none⟩ = some (.int .u32 a)) (go_simp) (fail)
  obtain ⟨hn2, hn3, hm4, hmA, hml, hdl, hsl⟩ := HN.out
  rw [hmA] at hm4
  have hv : IntKind.i64.wrap (IntKind.u32.wrap (a + IntKind.u32.wrap im)) = 1048576 + (m : Int) := by
    simp only [IntKind.wrap_u32, IntKind.wrap_i64]
    omega
  rw [hv]
  have i0 : (m : Int) + 4 ≤ (n2 : Int) := by omega
  have i1 : (0 : Int) ≤ (m : Int) := by omega
  have ht4 : Int.tmod (1048576 + (m : Int)) 4 = 0 := by rw [Int.tmod_eq_emod_of_nonneg (by omega)]; omega
  have HM : Hid _ := And.intro hml (And.intro hdl (And.intro hsl (And.intro hm4 (And.intro hmA (And.intro hn2 hn3)))))
  clear hn2 hn3 hm4 hml hdl hsl HN hmA hv
  go_upto_region 4 with fail
  rw [show (1048576 + (m : Int) - 1048576) = (m : Int) by omega]
  go_wp2_with fail
  refine bodyPost_ret (v := .agg #[.slice (some ⟨g, off, none⟩) 32 y1, .int .u32 ((c.pc + 4) % 4294967296), .slice (some ⟨gd, od, none⟩) n2 y2, .slice x3 n3 y3, .slice x4 n4 y4, .slice x5 n5 y5, .int .u32 c.low, .int .i64 c.st]) (by simp [results, Try.results79, go_sem, z0, z1, z2, z3, z4, z5, z6, z7]) rfl ?_
  obtain ⟨hv, A4, hI, hb⟩ := HX.out
  have hl := hv.lt
  have T := fun (W9 : World) => ((Tcs.refl (fun k => w.heap.size ≤ k) W9).setCell (p := ⟨w.heap.size + 1, 1, none⟩) (by show _ ≤ _; dsimp only; omega) (.int .u32 ((c.pc + 4) % 4294967296))).set8 (w.heap.size + 1 + 1 + 1) (by omega) (.slice (some ⟨g, off, none⟩) 32 y1) (.int .u32 ((c.pc + 4) % 4294967296)) (.slice (some ⟨gd, od, none⟩) n2 y2) (.slice x3 n3 y3) (.slice x4 n4 y4) (.slice x5 n5 y5) (.int .u32 c.low) (.int .i64 c.st) |>.drewN 1
  have k3 := ((hv.below A4).tcs (T _) (fun x hx h => by have := hl x hx; omega)).pc ((c.pc + 4) % 4294967296)
  refine ⟨_, rfl, ?_, ?_⟩
  · rw [setR_zero]
    exact k3
  · exact ((Below.tcs (S := fun x => x ∈ L) A4).setNew (p := ⟨w.heap.size + 1, 1, none⟩) (by dsimp only; omega) _).new8 _ (by omega) _ _ _ _ _ _ _ _ |>.drewN 1


set_option maxRecDepth 8000 in
set_option maxHeartbeats 1000000 in
theorem memLD (ma : Option Addr) (mn mc' : Nat) (md mb : Int) (v : Value) (L : List Nat) (c : Mc)  (rd s1 s2 : Nat) (im : Int) (w : World) (hG : Good c) (h : CpuV w v L c) (m : Nat) (hrd : rd < 32) (h1 : s1 < 32) (h2 : s2 < 32)
    (hmb : mb = (c.stack.length : Int)) (hm : inD c ((c.regs.getD s1 0 + im) % 4294967296) m) :
    Calls Try.prog 79 #[.agg #[.slice ma mn mc', .int .i64 md, .int .i64 mb], v, .agg #[.int .i64 10, .int .i64 rd, .int .i64 s1, .int .i64 s2, .int .i64 im]] w fun e w' =>
      ∃ u, e = .returned u ∧ CpuV w' u L { setR c rd (word4 c.data m) with pc := (c.pc + 4) % 4294967296 } ∧ Tcs (fun g => g ∈ L) w w' := by
  by_cases h0 : 0 < rd
  · exact memLD1 ma mn mc' md mb v L c rd s1 s2 im w hG h m h0 hrd h1 h2 hmb hm
  · obtain rfl : rd = 0 := by omega
    exact memLD0 ma mn mc' md mb v L c s1 s2 im w hG h m h1 h2 hmb hm


set_option maxRecDepth 8000 in
set_option maxHeartbeats 1000000 in
theorem memWD (ma : Option Addr) (mn mc' : Nat) (md mb : Int) (v : Value) (L : List Nat) (c : Mc)  (rd s1 s2 : Nat) (im : Int) (w : World) (hG : Good c) (h : CpuV w v L c) (m : Nat) (hrd : rd < 32) (h1 : s1 < 32) (h2 : s2 < 32)
    (hmb : mb = (c.stack.length : Int)) (hm : inD c ((c.regs.getD s1 0 + im) % 4294967296) m) :
    Calls Try.prog 79 #[.agg #[.slice ma mn mc', .int .i64 md, .int .i64 mb], v, .agg #[.int .i64 11, .int .i64 rd, .int .i64 s1, .int .i64 s2, .int .i64 im]] w fun e w' =>
      ∃ u, e = .returned u ∧ CpuV w' u L { c with data := put4 c.data m (c.regs.getD s2 0), pc := (c.pc + 4) % 4294967296 } ∧ Tcs (fun g => g ∈ L) w w' := by
  obtain ⟨g, off, y1, n2, n3, n4, n5, x2, y2, x3, y3, x4, y4, x5, y5, rfl, hbk⟩ := h.shape32 hG.r32
  have A4 : Below w.heap.size w ((((w.alloc (.cells #[.slice ma mn mc', .int .i64 md, .int .i64 mb] 25)).alloc (.cells #[.slice (some ⟨g, off, none⟩) 32 y1, .int .u32 c.pc, .slice x2 n2 y2, .slice x3 n3 y3, .slice x4 n4 y4, .slice x5 n5 y5, .int .u32 c.low, .int .i64 c.st] 32)).alloc (.cells #[.int .i64 11, .int .i64 rd, .int .i64 s1, .int .i64 s2, .int .i64 im] 64)).alloc (.cells #[.slice none 0 0, .int .u32 0, .slice none 0 0, .slice none 0 0, .slice none 0 0, .slice none 0 0, .int .u32 0, .int .i64 0] 32)) := ((((Below.refl _ _).alloc (Nat.le_refl _) _).alloc (by simp) _).alloc (by simp; omega) _).alloc (by simp; omega) _
  have hCb : ((((w.alloc (.cells #[.slice ma mn mc', .int .i64 md, .int .i64 mb] 25)).alloc (.cells #[.slice (some ⟨g, off, none⟩) 32 y1, .int .u32 c.pc, .slice x2 n2 y2, .slice x3 n3 y3, .slice x4 n4 y4, .slice x5 n5 y5, .int .u32 c.low, .int .i64 c.st] 32)).alloc (.cells #[.int .i64 11, .int .i64 rd, .int .i64 s1, .int .i64 s2, .int .i64 im] 64)).alloc (.cells #[.slice none 0 0, .int .u32 0, .slice none 0 0, .slice none 0 0, .slice none 0 0, .slice none 0 0, .int .u32 0, .int .i64 0] 32)).heap[w.heap.size + 1]? = some (.cells #[.slice (some ⟨g, off, none⟩) 32 y1, .int .u32 c.pc, .slice x2 n2 y2, .slice x3 n3 y3, .slice x4 n4 y4, .slice x5 n5 y5, .int .u32 c.low, .int .i64 c.st] 32) := by
    rw [Below.heap_alloc _ _ _ (by simp), Below.heap_alloc _ _ _ (by simp)]
    have := heap_alloc_new (w.alloc (.cells #[.slice ma mn mc', .int .i64 md, .int .i64 mb] 25)) (.cells #[.slice (some ⟨g, off, none⟩) 32 y1, .int .u32 c.pc, .slice x2 n2 y2, .slice x3 n3 y3, .slice x4 n4 y4, .slice x5 n5 y5, .int .u32 c.low, .int .i64 c.st] 32)
    simpa only [World.size_alloc] using this
  have hI := h.boxed A4 hCb (by omega)
  obtain ⟨rv, d, s, i, o, hb, hr, hd, hs, hi, ho, hk, hL, hnd⟩ := id hI
  obtain rfl := Option.some.inj (hb.c0.symm.trans (Bx.of_heap hCb).c0)
  have hR := row_of hr hG.r32
  have cs1 := hR.cell s1 (by have := hG.r32; omega)
  have cs2 := hR.cell s2 (by have := hG.r32; omega)
  have hgw : g < w.heap.size := h.lt g hbk
  have e1 : ¬ g = w.heap.size := by omega
  have e2 : ¬ g = w.heap.size + 1 := by omega
  have e3 : ¬ g = w.heap.size + 1 + 1 := by omega
  have e4 : ¬ g = w.heap.size + 1 + 1 + 1 := by omega
  have cR := hR.cell rd (by have := hG.r32; omega)
  have fR := hR.froz (off + rd)
  have hn2 : n2 = c.data.length := (dat_len h).1
  have hn3 : n3 = c.stack.length := (stk_len h).1
  have hu1 := hG.ru s1 h1
  have hu2 := hG.ru s2 h2
  have hdl := hG.dl
  have hsl := hG.sl
  obtain ⟨hm4, hmA, hml⟩ := hm
  obtain ⟨gd, od, rfl, hRd, hgdL, hgdr⟩ := dat_row h (by omega)
  have hgdg : gd ≠ g := hgdr g (by simp [blk])
  have hgdw : gd < w.heap.size := h.lt gd hgdL
  have f1 : ¬ gd = w.heap.size := by omega
  have f2 : ¬ gd = w.heap.size + 1 := by omega
  have f3 : ¬ gd = w.heap.size + 1 + 1 := by omega
  have f4 : ¬ gd = w.heap.size + 1 + 1 + 1 := by omega
  have HR : Hid (Row .u8 w gd od c.data) := hRd
  have d0 := hG.du m (by omega)
  have d1 := hG.du (m + 1) (by omega)
  have d2 := hG.du (m + 2) (by omega)
  have d3 := hG.du (m + 3) (by omega)
  rw [← hn3] at hmb
  subst hmb
  rw [← hn2] at hml
  skip
  have HN : Hid _ := And.intro hn2 (And.intro hn3 (And.intro hm4 (And.intro hmA (And.intro hml (And.intro hdl hsl)))))
  have hs1 : (s1 : Int) < 32 := by omega
  have hs1' : (0 : Int) ≤ (s1 : Int) := by omega
  have hs2 : (s2 : Int) < 32 := by omega
  have hs2' : (0 : Int) ≤ (s2 : Int) := by omega
  have hrd1 : (rd : Int) < 32 := by omega
  have hrd1' : (0 : Int) ≤ (rd : Int) := by omega
  skip
  have hdl2 : (n2 : Int) ≤ 65536 := by omega
  have hsl2 : (n3 : Int) ≤ 1000000 := by omega
  clear hn2 hn3 hdl hsl hm4 hmA hml hRd hgdr
  have HX : Hid _ := And.intro h (And.intro A4 (And.intro hI (Bx.of_heap hCb)))
  clear hb hr hR hd hs hi ho hk hL hnd h A4 hCb hI hbk
  generalize hx1 : c.regs.getD s1 0 = a at *
  generalize hx2 : c.regs.getD s2 0 = b at *
  go_enter Try.func79, Try.ntmps79
  go_wp2_with fail
  have hW : ∃ W, W = ((((w.alloc (.cells #[.slice ma mn mc', .int .i64 md, .int .i64 (n3 : Int)] 25)).alloc (.cells #[.slice (some ⟨g, off, none⟩) 32 y1, .int .u32 c.pc, .slice (some ⟨gd, od, none⟩) n2 y2, .slice x3 n3 y3, .slice x4 n4 y4, .slice x5 n5 y5, .int .u32 c.low, .int .i64 c.st] 32)).alloc (.cells #[.int .i64 11, .int .i64 rd, .int .i64 s1, .int .i64 s2, .int .i64 im] 64)).alloc (.cells #[.slice none 0 0, .int .u32 0, .slice none 0 0, .slice none 0 0, .slice none 0 0, .slice none 0 0, .int .u32 0, .int .i64 0] 32)) := ⟨_, rfl⟩
  obtain ⟨W, hW⟩ := hW
  rw [← hW]
  have u1 : W.heap[w.heap.size]? = some (.cells #[.slice ma mn mc', .int .i64 md, .int .i64 (n3 : Int)] 25) := by
    rw [hW, Below.heap_alloc _ _ _ (by simp; omega), Below.heap_alloc _ _ _ (by simp; omega), Below.heap_alloc _ _ _ (by simp)]
    exact heap_alloc_new _ _
  have u3 : W.heap[w.heap.size + 1 + 1]? = some (.cells #[.int .i64 11, .int .i64 rd, .int .i64 s1, .int .i64 s2, .int .i64 im] 64) := by
    rw [hW, Below.heap_alloc _ _ _ (by simp)]
    have := heap_alloc_new ((w.alloc (.cells #[.slice ma mn mc', .int .i64 md, .int .i64 (n3 : Int)] 25)).alloc (.cells #[.slice (some ⟨g, off, none⟩) 32 y1, .int .u32 c.pc, .slice (some ⟨gd, od, none⟩) n2 y2, .slice x3 n3 y3, .slice x4 n4 y4, .slice x5 n5 y5, .int .u32 c.low, .int .i64 c.st] 32)) (.cells #[.int .i64 11, .int .i64 rd, .int .i64 s1, .int .i64 s2, .int .i64 im] 64)
    simpa only [World.size_alloc] using this
  have u4 : W.heap[w.heap.size + 1 + 1 + 1]? = some (.cells #[.slice none 0 0, .int .u32 0, .slice none 0 0, .slice none 0 0, .slice none 0 0, .slice none 0 0, .int .u32 0, .int .i64 0] 32) := by
    rw [hW]
    have := heap_alloc_new (((w.alloc (.cells #[.slice ma mn mc', .int .i64 md, .int .i64 (n3 : Int)] 25)).alloc (.cells #[.slice (some ⟨g, off, none⟩) 32 y1, .int .u32 c.pc, .slice (some ⟨gd, od, none⟩) n2 y2, .slice x3 n3 y3, .slice x4 n4 y4, .slice x5 n5 y5, .int .u32 c.low, .int .i64 c.st] 32)).alloc (.cells #[.int .i64 11, .int .i64 rd, .int .i64 s1, .int .i64 s2, .int .i64 im] 64)) (.cells #[.slice none 0 0, .int .u32 0, .slice none 0 0, .slice none 0 0, .slice none 0 0, .slice none 0 0, .int .u32 0, .int .i64 0] 32)
    simpa only [World.size_alloc] using this
  have hsz : W.heap.size = w.heap.size + 4 := by rw [hW]; simp
  have q2 := cell_of u1 (j := 2) rfl
  have p0 := cell_of u3 (j := 0) rfl
  have p1 := cell_of u3 (j := 1) rfl
  have p2 := cell_of u3 (j := 2) rfl
  have p3 := cell_of u3 (j := 3) rfl
  have p4 := cell_of u3 (j := 4) rfl
  rw [← hW] at HX cs1 cs2 cR fR
  have B1 := HX.out.2.2.2
  have B4 := Bx.of_heap u4
  obtain ⟨c0, c1, c2, c3, c4, c5, c6, c7, cf⟩ := id B1
  obtain ⟨z0, z1, z2, z3, z4, z5, z6, z7, zf⟩ := id B4
  have HW : Hid _ := And.intro hsz (And.intro B1 B4)
  clear hW u1 u3 u4 B1 B4 hsz
  have BW := HX.out.2.1
  have r0 := (HR.out.below BW).cell m (by have := HN.out; omega)
  have r1 := (HR.out.below BW).cell (m + 1) (by have := HN.out; omega)
  have r2 := (HR.out.below BW).cell (m + 2) (by have := HN.out; omega)
  have r3 := (HR.out.below BW).cell (m + 3) (by have := HN.out; omega)
  have fz := (HR.out.below BW).froz
  clear BW
  generalize hb0 : c.data.getD m 0 = b0 at *
  generalize hb1 : c.data.getD (m + 1) 0 = b1 at *
  generalize hb2 : c.data.getD (m + 2) 0 = b2 at *
  generalize hb3 : c.data.getD (m + 3) 0 = b3 at *
  go_region_held3 (fun W => W.cell? ⟨w.heap.size + 1, 0, none⟩ = some (.slice (some ⟨g, off, none⟩) 32 y1) ∧ W.cell? ⟨w.heap.size + 1 + 1, 2, none⟩ = some (.int .i64 (s1 : Int)) ∧ W.cell? ⟨w.heap.size + 1 + 1, 4, none⟩ = some (.int .i64 im) ∧ W.cell? ⟨g, off + s1, none⟩ = some (.int .u32 a)) (go_simp) (fail)
  obtain ⟨hn2, hn3, hm4, hmA, hml, hdl, hsl⟩ := HN.out
  rw [hmA] at hm4
  have hv : IntKind.i64.wrap (IntKind.u32.wrap (a + IntKind.u32.wrap im)) = 1048576 + (m : Int) := by
    simp only [IntKind.wrap_u32, IntKind.wrap_i64]
    omega
  rw [hv]
  have i0 : (m : Int) + 4 ≤ (n2 : Int) := by omega
  have i1 : (0 : Int) ≤ (m : Int) := by omega
  have ht4 : Int.tmod (1048576 + (m : Int)) 4 = 0 := by rw [Int.tmod_eq_emod_of_nonneg (by omega)]; omega
  have HM : Hid _ := And.intro hml (And.intro hdl (And.intro hsl (And.intro hm4 (And.intro hmA (And.intro hn2 hn3)))))
  clear hn2 hn3 hm4 hml hdl hsl HN hmA hv
  go_upto_region 4 with fail
  rw [show (1048576 + (m : Int) - 1048576) = (m : Int) by omega]
  go_wp2_with fail
  refine wp_loop_rounds 5 ?_
  rw [rounds_succ]
  go_wp2_with fail
  rw [rounds_succ]
  go_wp2_with fail
  rw [rounds_succ]
  go_wp2_with fail
  rw [rounds_succ]
  go_wp2_with fail
  rw [rounds_succ]
  go_wp2_with fail
  refine bodyPost_ret (v := .agg #[.slice (some ⟨g, off, none⟩) 32 y1, .int .u32 ((c.pc + 4) % 4294967296), .slice (some ⟨gd, od, none⟩) n2 y2, .slice x3 n3 y3, .slice x4 n4 y4, .slice x5 n5 y5, .int .u32 c.low, .int .i64 c.st]) (by simp [results, Try.results79, go_sem, z0, z1, z2, z3, z4, z5, z6, z7]) rfl ?_
  obtain ⟨hv, A4, hI, hb⟩ := HX.out
  have hl := hv.lt
  have BW := HX.out.2.1
  have hRW := (HR.out.below A4).put4 (o := m) (v := b) (by have := HM.out; omega)
  have k0 := (hv.below A4).dat (by have := HM.out; omega) ((((Tcs.refl (fun k => k = gd) _).setCell (p := ⟨gd, od + m, none⟩) rfl _).setCell (p := ⟨gd, od + m + 1, none⟩) rfl _).setCell (p := ⟨gd, od + m + 2, none⟩) rfl _ |>.setCell (p := ⟨gd, od + m + 3, none⟩) rfl _) (put4_len _ _ _) hRW
  have T := fun (W9 : World) => ((Tcs.refl (fun k => w.heap.size ≤ k) W9).setCell (p := ⟨w.heap.size + 1, 1, none⟩) (by show _ ≤ _; dsimp only; omega) (.int .u32 ((c.pc + 4) % 4294967296))).set8 (w.heap.size + 1 + 1 + 1) (by omega) (.slice (some ⟨g, off, none⟩) 32 y1) (.int .u32 ((c.pc + 4) % 4294967296)) (.slice (some ⟨gd, od, none⟩) n2 y2) (.slice x3 n3 y3) (.slice x4 n4 y4) (.slice x5 n5 y5) (.int .u32 c.low) (.int .i64 c.st) |>.drewN 1
  have k3 := (k0.tcs (T _) (fun x hx h => by have := hl x hx; omega)).pc ((c.pc + 4) % 4294967296)
  have q1 : b / 256 / 256 % 256 = b / 65536 % 256 := by omega
  have q2 : b / 256 / 256 / 256 % 256 = b / 16777216 := by omega
  refine ⟨_, rfl, ?_, ?_⟩
  · rw [q1, q2]
    exact k3
  · exact (((((Below.tcs (S := fun x => x ∈ L) A4).setCell (p := ⟨gd, od + m, none⟩) hgdL _).setCell (p := ⟨gd, od + (m + 1), none⟩) hgdL _).setCell (p := ⟨gd, od + (m + 2), none⟩) hgdL _).setCell (p := ⟨gd, od + (m + 3), none⟩) hgdL _).setNew (p := ⟨w.heap.size + 1, 1, none⟩) (by dsimp only; omega) _ |>.new8 _ (by omega) _ _ _ _ _ _ _ _ |>.drewN 1

end Go.Proofs.Ytabjcodpagjbjaa

namespace Go.Proofs.Ytabjcodpagjbjaa
open Go.RowKit
set_option linter.unusedVariables false
set_option linter.unusedSimpArgs false

set_option maxRecDepth 8000 in
set_option maxHeartbeats 1000000 in
theorem memLS1 (ma : Option Addr) (mn mc' : Nat) (md mb : Int) (v : Value) (L : List Nat) (c : Mc)  (rd s1 s2 : Nat) (im : Int) (w : World) (hG : Good c) (h : CpuV w v L c) (m : Nat) (h0 : 0 < rd) (hrd : rd < 32) (h1 : s1 < 32) (h2 : s2 < 32)
    (hmb : mb = (c.stack.length : Int)) (hm : inS c ((c.regs.getD s1 0 + im) % 4294967296) m) :
    Calls Try.prog 79 #[.agg #[.slice ma mn mc', .int .i64 md, .int .i64 mb], v, .agg #[.int .i64 10, .int .i64 rd, .int .i64 s1, .int .i64 s2, .int .i64 im]] w fun e w' =>
      ∃ u, e = .returned u ∧ CpuV w' u L { setR c rd (word4 c.stack m) with pc := (c.pc + 4) % 4294967296 } ∧ Tcs (fun g => g ∈ L) w w' := by
  obtain ⟨g, off, y1, n2, n3, n4, n5, x2, y2, x3, y3, x4, y4, x5, y5, rfl, hbk⟩ := h.shape32 hG.r32
  have A4 : Below w.heap.size w ((((w.alloc (.cells #[.slice ma mn mc', .int .i64 md, .int .i64 mb] 25)).alloc (.cells #[.slice (some ⟨g, off, none⟩) 32 y1, .int .u32 c.pc, .slice x2 n2 y2, .slice x3 n3 y3, .slice x4 n4 y4, .slice x5 n5 y5, .int .u32 c.low, .int .i64 c.st] 32)).alloc (.cells #[.int .i64 10, .int .i64 rd, .int .i64 s1, .int .i64 s2, .int .i64 im] 64)).alloc (.cells #[.slice none 0 0, .int .u32 0, .slice none 0 0, .slice none 0 0, .slice none 0 0, .slice none 0 0, .int .u32 0, .int .i64 0] 32)) := ((((Below.refl _ _).alloc (Nat.le_refl _) _).alloc (by simp) _).alloc (by simp; omega) _).alloc (by simp; omega) _
  have hCb : ((((w.alloc (.cells #[.slice ma mn mc', .int .i64 md, .int .i64 mb] 25)).alloc (.cells #[.slice (some ⟨g, off, none⟩) 32 y1, .int .u32 c.pc, .slice x2 n2 y2, .slice x3 n3 y3, .slice x4 n4 y4, .slice x5 n5 y5, .int .u32 c.low, .int .i64 c.st] 32)).alloc (.cells #[.int .i64 10, .int .i64 rd, .int .i64 s1, .int .i64 s2, .int .i64 im] 64)).alloc (.cells #[.slice none 0 0, .int .u32 0, .slice none 0 0, .slice none 0 0, .slice none 0 0, .slice none 0 0, .int .u32 0, .int .i64 0] 32)).heap[w.heap.size + 1]? = some (.cells #[.slice (some ⟨g, off, none⟩) 32 y1, .int .u32 c.pc, .slice x2 n2 y2, .slice x3 n3 y3, .slice x4 n4 y4, .slice x5 n5 y5, .int .u32 c.low, .int .i64 c.st] 32) := by
    rw [Below.heap_alloc _ _ _ (by simp), Below.heap_alloc _ _ _ (by simp)]
    have := heap_alloc_new (w.alloc (.cells #[.slice ma mn mc', .int .i64 md, .int .i64 mb] 25)) (.cells #[.slice (some ⟨g, off, none⟩) 32 y1, .int .u32 c.pc, .slice x2 n2 y2, .slice x3 n3 y3, .slice x4 n4 y4, .slice x5 n5 y5, .int .u32 c.low, .int .i64 c.st] 32)
    simpa only [World.size_alloc] using this
  have hI := h.boxed A4 hCb (by omega)
  obtain ⟨rv, d, s, i, o, hb, hr, hd, hs, hi, ho, hk, hL, hnd⟩ := id hI
  obtain rfl := Option.some.inj (hb.c0.symm.trans (Bx.of_heap hCb).c0)
  have hR := row_of hr hG.r32
  have cs1 := hR.cell s1 (by have := hG.r32; omega)
  have cs2 := hR.cell s2 (by have := hG.r32; omega)
  have hgw : g < w.heap.size := h.lt g hbk
  have e1 : ¬ g = w.heap.size := by omega
  have e2 : ¬ g = w.heap.size + 1 := by omega
  have e3 : ¬ g = w.heap.size + 1 + 1 := by omega
  have e4 : ¬ g = w.heap.size + 1 + 1 + 1 := by omega
  have cR := hR.cell rd (by have := hG.r32; omega)
  have fR := hR.froz (off + rd)
  have hn2 : n2 = c.data.length := (dat_len h).1
  have hn3 : n3 = c.stack.length := (stk_len h).1
  have hu1 := hG.ru s1 h1
  have hu2 := hG.ru s2 h2
  have hdl := hG.dl
  have hsl := hG.sl
  obtain ⟨hm4, hmA, hml⟩ := hm
  obtain ⟨gd, od, rfl, hRd, hgdL, hgdr⟩ := stk_row h (by omega)
  have hgdg : gd ≠ g := hgdr g (by simp [blk])
  have hgdw : gd < w.heap.size := h.lt gd hgdL
  have f1 : ¬ gd = w.heap.size := by omega
  have f2 : ¬ gd = w.heap.size + 1 := by omega
  have f3 : ¬ gd = w.heap.size + 1 + 1 := by omega
  have f4 : ¬ gd = w.heap.size + 1 + 1 + 1 := by omega
  have HR : Hid (Row .u8 w gd od c.stack) := hRd
  have d0 := hG.su m (by omega)
  have d1 := hG.su (m + 1) (by omega)
  have d2 := hG.su (m + 2) (by omega)
  have d3 := hG.su (m + 3) (by omega)
  rw [← hn3] at hmb
  subst hmb
  rw [← hn3] at hml
  rw [← hn3] at hmA
  have HN : Hid _ := And.intro hn2 (And.intro hn3 (And.intro hm4 (And.intro hmA (And.intro hml (And.intro hdl hsl)))))
  have hs1 : (s1 : Int) < 32 := by omega
  have hs1' : (0 : Int) ≤ (s1 : Int) := by omega
  have hs2 : (s2 : Int) < 32 := by omega
  have hs2' : (0 : Int) ≤ (s2 : Int) := by omega
  have hrd1 : (rd : Int) < 32 := by omega
  have hrd1' : (0 : Int) ≤ (rd : Int) := by omega
  have hrd0 : (0 : Int) < (rd : Int) := by omega
  have hdl2 : (n2 : Int) ≤ 65536 := by omega
  have hsl2 : (n3 : Int) ≤ 1000000 := by omega
  clear hn2 hn3 hdl hsl hm4 hmA hml hRd hgdr
  have HX : Hid _ := And.intro h (And.intro A4 (And.intro hI (Bx.of_heap hCb)))
  clear hb hr hR hd hs hi ho hk hL hnd h A4 hCb hI hbk
  generalize hx1 : c.regs.getD s1 0 = a at *
  generalize hx2 : c.regs.getD s2 0 = b at *
  go_enter Try.func79, Try.ntmps79
  go_wp2_with fail
  have hW : ∃ W, W = ((((w.alloc (.cells #[.slice ma mn mc', .int .i64 md, .int .i64 (n3 : Int)] 25)).alloc (.cells #[.slice (some ⟨g, off, none⟩) 32 y1, .int .u32 c.pc, .slice x2 n2 y2, .slice (some ⟨gd, od, none⟩) n3 y3, .slice x4 n4 y4, .slice x5 n5 y5, .int .u32 c.low, .int .i64 c.st] 32)).alloc (.cells #[.int .i64 10, .int .i64 rd, .int .i64 s1, .int .i64 s2, .int .i64 im] 64)).alloc (.cells #[.slice none 0 0, .int .u32 0, .slice none 0 0, .slice none 0 0, .slice none 0 0, .slice none 0 0, .int .u32 0, .int .i64 0] 32)) := ⟨_, rfl⟩
  obtain ⟨W, hW⟩ := hW
  rw [← hW]
  have u1 : W.heap[w.heap.size]? = some (.cells #[.slice ma mn mc', .int .i64 md, .int .i64 (n3 : Int)] 25) := by
    rw [hW, Below.heap_alloc _ _ _ (by simp; omega), Below.heap_alloc _ _ _ (by simp; omega), Below.heap_alloc _ _ _ (by simp)]
    exact heap_alloc_new _ _
  have u3 : W.heap[w.heap.size + 1 + 1]? = some (.cells #[.int .i64 10, .int .i64 rd, .int .i64 s1, .int .i64 s2, .int .i64 im] 64) := by
    rw [hW, Below.heap_alloc _ _ _ (by simp)]
    have := heap_alloc_new ((w.alloc (.cells #[.slice ma mn mc', .int .i64 md, .int .i64 (n3 : Int)] 25)).alloc (.cells #[.slice (some ⟨g, off, none⟩) 32 y1, .int .u32 c.pc, .slice x2 n2 y2, .slice (some ⟨gd, od, none⟩) n3 y3, .slice x4 n4 y4, .slice x5 n5 y5, .int .u32 c.low, .int .i64 c.st] 32)) (.cells #[.int .i64 10, .int .i64 rd, .int .i64 s1, .int .i64 s2, .int .i64 im] 64)
    simpa only [World.size_alloc] using this
  have u4 : W.heap[w.heap.size + 1 + 1 + 1]? = some (.cells #[.slice none 0 0, .int .u32 0, .slice none 0 0, .slice none 0 0, .slice none 0 0, .slice none 0 0, .int .u32 0, .int .i64 0] 32) := by
    rw [hW]
    have := heap_alloc_new (((w.alloc (.cells #[.slice ma mn mc', .int .i64 md, .int .i64 (n3 : Int)] 25)).alloc (.cells #[.slice (some ⟨g, off, none⟩) 32 y1, .int .u32 c.pc, .slice x2 n2 y2, .slice (some ⟨gd, od, none⟩) n3 y3, .slice x4 n4 y4, .slice x5 n5 y5, .int .u32 c.low, .int .i64 c.st] 32)).alloc (.cells #[.int .i64 10, .int .i64 rd, .int .i64 s1, .int .i64 s2, .int .i64 im] 64)) (.cells #[.slice none 0 0, .int .u32 0, .slice none 0 0, .slice none 0 0, .slice none 0 0, .slice none 0 0, .int .u32 0, .int .i64 0] 32)
    simpa only [World.size_alloc] using this
  have hsz : W.heap.size = w.heap.size + 4 := by rw [hW]; simp
  have q2 := cell_of u1 (j := 2) rfl
  have p0 := cell_of u3 (j := 0) rfl
  have p1 := cell_of u3 (j := 1) rfl
  have p2 := cell_of u3 (j := 2) rfl
  have p3 := cell_of u3 (j := 3) rfl
  have p4 := cell_of u3 (j := 4) rfl
  rw [← hW] at HX cs1 cs2 cR fR
  have B1 := HX.out.2.2.2
  have B4 := Bx.of_heap u4
  obtain ⟨c0, c1, c2, c3, c4, c5, c6, c7, cf⟩ := id B1
  obtain ⟨z0, z1, z2, z3, z4, z5, z6, z7, zf⟩ := id B4
  have HW : Hid _ := And.intro hsz (And.intro B1 B4)
  clear hW u1 u3 u4 B1 B4 hsz
  have BW := HX.out.2.1
  have r0 := (HR.out.below BW).cell m (by have := HN.out; omega)
  have r1 := (HR.out.below BW).cell (m + 1) (by have := HN.out; omega)
  have r2 := (HR.out.below BW).cell (m + 2) (by have := HN.out; omega)
  have r3 := (HR.out.below BW).cell (m + 3) (by have := HN.out; omega)
  have fz := (HR.out.below BW).froz
  clear BW
  generalize hb0 : c.stack.getD m 0 = b0 at *
  generalize hb1 : c.stack.getD (m + 1) 0 = b1 at *
  generalize hb2 : c.stack.getD (m + 2) 0 = b2 at *
  generalize hb3 : c.stack.getD (m + 3) 0 = b3 at *
  go_region_held3 (fun W => W.cell? ⟨w.heap.size + 1, 0, none⟩ = some (.slice (some ⟨g, off, none⟩) 32 y1) ∧ W.cell? ⟨w.heap.size + 1 + 1, 2, none⟩ = some (.int .i64 (s1 : Int)) ∧ W.cell? ⟨w.heap.size + 1 + 1, 4, none⟩ = some (.int .i64 im) ∧ W.cell? ⟨g, off + s1, none⟩ = some (.int .u32 a)) (go_simp) (fail)
  obtain ⟨hn2, hn3, hm4, hmA, hml, hdl, hsl⟩ := HN.out
  rw [hmA] at hm4
  have hv : IntKind.i64.wrap (IntKind.u32.wrap (a + IntKind.u32.wrap im)) = 1073741824 - (n3 : Int) + (m : Int) := by
    simp only [IntKind.wrap_u32, IntKind.wrap_i64]
    omega
  rw [hv]
  have i0 : (m : Int) + 4 ≤ (n3 : Int) := by omega
  have i1 : (0 : Int) ≤ (m : Int) := by omega
  have ht4 : Int.tmod (1073741824 - (n3 : Int) + (m : Int)) 4 = 0 := by rw [Int.tmod_eq_emod_of_nonneg (by omega)]; omega
  have HM : Hid _ := And.intro hml (And.intro hdl (And.intro hsl (And.intro hm4 (And.intro hmA (And.intro hn2 hn3)))))
  clear hn2 hn3 hm4 hml hdl hsl HN hmA hv
  have i2 : ¬ (1073741824 - (n3 : Int) + (m : Int) - 1048576 < 0) := by omega
  have i3 : (n2 : Int) < 1073741824 - (n3 : Int) + (m : Int) - 1048576 + 4 := by omega
  go_upto_region 7 with fail
  rw [show (1073741824 - (n3 : Int) + (m : Int) - (1073741824 - (n3 : Int))) = (m : Int) by omega]
  go_wp2_with fail
  refine wp_loop_rounds 5 ?_
  rw [rounds_succ]
  go_wp2_with fail
  rw [rounds_succ]
  go_wp2_with fail
  rw [rounds_succ]
  go_wp2_with fail
  rw [rounds_succ]
  go_wp2_with fail
  rw [rounds_succ]
  go_wp2_with fail
  refine bodyPost_ret (v := .agg #[.slice (some ⟨g, off, none⟩) 32 y1, .int .u32 ((c.pc + 4) % 4294967296), .slice x2 n2 y2, .slice (some ⟨gd, od, none⟩) n3 y3, .slice x4 n4 y4, .slice x5 n5 y5, .int .u32 c.low, .int .i64 c.st]) (by simp [results, Try.results79, go_sem, z0, z1, z2, z3, z4, z5, z6, z7]) rfl ?_
  obtain ⟨hv, A4, hI, hb⟩ := HX.out
  have hl := hv.lt
  obtain ⟨k0, hgL⟩ := (hv.below A4).set (rd := rd) (v := 256 * (256 * (256 * b3 + b2) + b1) + b0) hG.r32 hrd
  have T := fun (W9 : World) => ((Tcs.refl (fun k => w.heap.size ≤ k) W9).setCell (p := ⟨w.heap.size + 1, 1, none⟩) (by show _ ≤ _; dsimp only; omega) (.int .u32 ((c.pc + 4) % 4294967296))).set8 (w.heap.size + 1 + 1 + 1) (by omega) (.slice (some ⟨g, off, none⟩) 32 y1) (.int .u32 ((c.pc + 4) % 4294967296)) (.slice x2 n2 y2) (.slice (some ⟨gd, od, none⟩) n3 y3) (.slice x4 n4 y4) (.slice x5 n5 y5) (.int .u32 c.low) (.int .i64 c.st) |>.drewN 1
  have k3 := (k0.tcs (T _) (fun x hx h => by have := hl x hx; omega)).pc ((c.pc + 4) % 4294967296)
  have hw : word4 c.stack m = 256 * (256 * (256 * b3 + b2) + b1) + b0 := by unfold word4; rw [hb0, hb1, hb2, hb3]; omega
  refine ⟨_, rfl, ?_, ?_⟩
  · rw [hw, show setR c (rd : Int) (256 * (256 * (256 * b3 + b2) + b1) + b0) = { c with regs := c.regs.set rd (256 * (256 * (256 * b3 + b2) + b1) + b0) } by unfold setR; rw [if_neg (by omega)]; rfl]
    exact k3
  · exact (((Below.tcs (S := fun x => x ∈ L) A4).setCell (p := ⟨g, off + rd, none⟩) hgL _).setNew (p := ⟨w.heap.size + 1, 1, none⟩) (by dsimp only; omega) _).new8 _ (by omega) _ _ _ _ _ _ _ _ |>.drewN 1


set_option maxRecDepth 8000 in
set_option maxHeartbeats 1000000 in
theorem memLS0 (ma : Option Addr) (mn mc' : Nat) (md mb : Int) (v : Value) (L : List Nat) (c : Mc)  (s1 s2 : Nat) (im : Int) (w : World) (hG : Good c) (h : CpuV w v L c) (m : Nat) (h1 : s1 < 32) (h2 : s2 < 32)
    (hmb : mb = (c.stack.length : Int)) (hm : inS c ((c.regs.getD s1 0 + im) % 4294967296) m) :
    Calls Try.prog 79 #[.agg #[.slice ma mn mc', .int .i64 md, .int .i64 mb], v, .agg #[.int .i64 10, .int .i64 0, .int .i64 s1, .int .i64 s2, .int .i64 im]] w fun e w' =>
      ∃ u, e = .returned u ∧ CpuV w' u L { setR c 0 (word4 c.stack m) with pc := (c.pc + 4) % 4294967296 } ∧ Tcs (fun g => g ∈ L) w w' := by
  obtain ⟨g, off, y1, n2, n3, n4, n5, x2, y2, x3, y3, x4, y4, x5, y5, rfl, hbk⟩ := h.shape32 hG.r32
  have A4 : Below w.heap.size w ((((w.alloc (.cells #[.slice ma mn mc', .int .i64 md, .int .i64 mb] 25)).alloc (.cells #[.slice (some ⟨g, off, none⟩) 32 y1, .int .u32 c.pc, .slice x2 n2 y2, .slice x3 n3 y3, .slice x4 n4 y4, .slice x5 n5 y5, .int .u32 c.low, .int .i64 c.st] 32)).alloc (.cells #[.int .i64 10, .int .i64 0, .int .i64 s1, .int .i64 s2, .int .i64 im] 64)).alloc (.cells #[.slice none 0 0, .int .u32 0, .slice none 0 0, .slice none 0 0, .slice none 0 0, .slice none 0 0, .int .u32 0, .int .i64 0] 32)) := ((((Below.refl _ _).alloc (Nat.le_refl _) _).alloc (by simp) _).alloc (by simp; omega) _).alloc (by simp; omega) _
  have hCb : ((((w.alloc (.cells #[.slice ma mn mc', .int .i64 md, .int .i64 mb] 25)).alloc (.cells #[.slice (some ⟨g, off, none⟩) 32 y1, .int .u32 c.pc, .slice x2 n2 y2, .slice x3 n3 y3, .slice x4 n4 y4, .slice x5 n5 y5, .int .u32 c.low, .int .i64 c.st] 32)).alloc (.cells #[.int .i64 10, .int .i64 0, .int .i64 s1, .int .i64 s2, .int .i64 im] 64)).alloc (.cells #[.slice none 0 0, .int .u32 0, .slice none 0 0, .slice none 0 0, .slice none 0 0, .slice none 0 0, .int .u32 0, .int .i64 0] 32)).heap[w.heap.size + 1]? = some (.cells #[.slice (some ⟨g, off, none⟩) 32 y1, .int .u32 c.pc, .slice x2 n2 y2, .slice x3 n3 y3, .slice x4 n4 y4, .slice x5 n5 y5, .int .u32 c.low, .int .i64 c.st] 32) := by
    rw [Below.heap_alloc _ _ _ (by simp), Below.heap_alloc _ _ _ (by simp)]
    have := heap_alloc_new (w.alloc (.cells #[.slice ma mn mc', .int .i64 md, .int .i64 mb] 25)) (.cells #[.slice (some ⟨g, off, none⟩) 32 y1, .int .u32 c.pc, .slice x2 n2 y2, .slice x3 n3 y3, .slice x4 n4 y4, .slice x5 n5 y5, .int .u32 c.low, .int .i64 c.st] 32)
    simpa only [World.size_alloc] using this
  have hI := h.boxed A4 hCb (by omega)
  obtain ⟨rv, d, s, i, o, hb, hr, hd, hs, hi, ho, hk, hL, hnd⟩ := id hI
  obtain rfl := Option.some.inj (hb.c0.symm.trans (Bx.of_heap hCb).c0)
  have hR := row_of hr hG.r32
  have cs1 := hR.cell s1 (by have := hG.r32; omega)
  have cs2 := hR.cell s2 (by have := hG.r32; omega)
  have hgw : g < w.heap.size := h.lt g hbk
  have e1 : ¬ g = w.heap.size := by omega
  have e2 : ¬ g = w.heap.size + 1 := by omega
  have e3 : ¬ g = w.heap.size + 1 + 1 := by omega
  have e4 : ¬ g = w.heap.size + 1 + 1 + 1 := by omega
  have cR := hR.cell 0 (by have := hG.r32; omega)
  have fR := hR.froz (off + 0)
  have hn2 : n2 = c.data.length := (dat_len h).1
  have hn3 : n3 = c.stack.length := (stk_len h).1
  have hu1 := hG.ru s1 h1
  have hu2 := hG.ru s2 h2
  have hdl := hG.dl
  have hsl := hG.sl
  obtain ⟨hm4, hmA, hml⟩ := hm
  obtain ⟨gd, od, rfl, hRd, hgdL, hgdr⟩ := stk_row h (by omega)
  have hgdg : gd ≠ g := hgdr g (by simp [blk])
  have hgdw : gd < w.heap.size := h.lt gd hgdL
  have f1 : ¬ gd = w.heap.size := by omega
  have f2 : ¬ gd = w.heap.size + 1 := by omega
  have f3 : ¬ gd = w.heap.size + 1 + 1 := by omega
  have f4 : ¬ gd = w.heap.size + 1 + 1 + 1 := by omega
  have HR : Hid (Row .u8 w gd od c.stack) := hRd
  have d0 := hG.su m (by omega)
  have d1 := hG.su (m + 1) (by omega)
  have d2 := hG.su (m + 2) (by omega)
  have d3 := hG.su (m + 3) (by omega)
  rw [← hn3] at hmb
  subst hmb
  rw [← hn3] at hml
  rw [← hn3] at hmA
  have HN : Hid _ := And.intro hn2 (And.intro hn3 (And.intro hm4 (And.intro hmA (And.intro hml (And.intro hdl hsl)))))
  have hs1 : (s1 : Int) < 32 := by omega
  have hs1' : (0 : Int) ≤ (s1 : Int) := by omega
  have hs2 : (s2 : Int) < 32 := by omega
  have hs2' : (0 : Int) ≤ (s2 : Int) := by omega
  skip
  have hdl2 : (n2 : Int) ≤ 65536 := by omega
  have hsl2 : (n3 : Int) ≤ 1000000 := by omega
  clear hn2 hn3 hdl hsl hm4 hmA hml hRd hgdr
  have HX : Hid _ := And.intro h (And.intro A4 (And.intro hI (Bx.of_heap hCb)))
  clear hb hr hR hd hs hi ho hk hL hnd h A4 hCb hI hbk
  generalize hx1 : c.regs.getD s1 0 = a at *
  generalize hx2 : c.regs.getD s2 0 = b at *
  go_enter Try.func79, Try.ntmps79
  go_wp2_with fail
  have hW : ∃ W, W = ((((w.alloc (.cells #[.slice ma mn mc', .int .i64 md, .int .i64 (n3 : Int)] 25)).alloc (.cells #[.slice (some ⟨g, off, none⟩) 32 y1, .int .u32 c.pc, .slice x2 n2 y2, .slice (some ⟨gd, od, none⟩) n3 y3, .slice x4 n4 y4, .slice x5 n5 y5, .int .u32 c.low, .int .i64 c.st] 32)).alloc (.cells #[.int .i64 10, .int .i64 0, .int .i64 s1, .int .i64 s2, .int .i64 im] 64)).alloc (.cells #[.slice none 0 0, .int .u32 0, .slice none 0 0, .slice none 0 0, .slice none 0 0, .slice none 0 0, .int .u32 0, .int .i64 0] 32)) := ⟨_, rfl⟩
  obtain ⟨W, hW⟩ := hW
  rw [← hW]
  have u1 : W.heap[w.heap.size]? = some (.cells #[.slice ma mn mc', .int .i64 md, .int .i64 (n3 : Int)] 25) := by
    rw [hW, Below.heap_alloc _ _ _ (by simp; omega), Below.heap_alloc _ _ _ (by simp; omega), Below.heap_alloc _ _ _ (by simp)]
    exact heap_alloc_new _ _
  have u3 : W.heap[w.heap.size + 1 + 1]? = some (.cells #[.int .i64 10, .int .i64 0, .int .i64 s1, .int .i64 s2, .int .i64 im] 64) := by
    rw [hW, Below.heap_alloc _ _ _ (by simp)]
    have := heap_alloc_new ((w.alloc (.cells #[.slice ma mn mc', .int .i64 md, .int .i64 (n3 : Int)] 25)).alloc (.cells #[.slice (some ⟨g, off, none⟩) 32 y1, .int .u32 c.pc, .slice x2 n2 y2, .slice (some ⟨gd, od, none⟩) n3 y3, .slice x4 n4 y4, .slice x5 n5 y5, .int .u32 c.low, .int .i64 c.st] 32)) (.cells #[.int .i64 10, .int .i64 0, .int .i64 s1, .int .i64 s2, .int .i64 im] 64)
    simpa only [World.size_alloc] using this
  have u4 : W.heap[w.heap.size + 1 + 1 + 1]? = some (.cells #[.slice none 0 0, .int .u32 0, .slice none 0 0, .slice none 0 0, .slice none 0 0, .slice none 0 0, .int .u32 0, .int .i64 0] 32) := by
    rw [hW]
    have := heap_alloc_new (((w.alloc (.cells #[.slice ma mn mc', .int .i64 md, .int .i64 (n3 : Int)] 25)).alloc (.cells #[.slice (some ⟨g, off, none⟩) 32 y1, .int .u32 c.pc, .slice x2 n2 y2, .slice (some ⟨gd, od, none⟩) n3 y3, .slice x4 n4 y4, .slice x5 n5 y5, .int .u32 c.low, .int .i64 c.st] 32)).alloc (.cells #[.int .i64 10, .int .i64 0, .int .i64 s1, .int .i64 s2, .int .i64 im] 64)) (.cells #[.slice none 0 0, .int .u32 0, .slice none 0 0, .slice none 0 0, .slice none 0 0, .slice none 0 0, .int .u32 0, .int .i64 0] 32)
    simpa only [World.size_alloc] using this
  have hsz : W.heap.size = w.heap.size + 4 := by rw [hW]; simp
  have q2 := cell_of u1 (j := 2) rfl
  have p0 := cell_of u3 (j := 0) rfl
  have p1 := cell_of u3 (j := 1) rfl
  have p2 := cell_of u3 (j := 2) rfl
  have p3 := cell_of u3 (j := 3) rfl
  have p4 := cell_of u3 (j := 4) rfl
  rw [← hW] at HX cs1 cs2 cR fR
  have B1 := HX.out.2.2.2
  have B4 := Bx.of_heap u4
  obtain ⟨c0, c1, c2, c3, c4, c5, c6, c7, cf⟩ := id B1
  obtain ⟨z0, z1, z2, z3, z4, z5, z6, z7, zf⟩ := id B4
  have HW : Hid _ := And.intro hsz (And.intro B1 B4)
  clear hW u1 u3 u4 B1 B4 hsz
  have BW := HX.out.2.1
  have r0 := (HR.out.below BW).cell m (by have := HN.out; omega)
  have r1 := (HR.out.below BW).cell (m + 1) (by have := HN.out; omega)
  have r2 := (HR.out.below BW).cell (m + 2) (by have := HN.out; omega)
  have r3 := (HR.out.below BW).cell (m + 3) (by have := HN.out; omega)
  have fz := (HR.out.below BW).froz
  clear BW
  generalize hb0 : c.stack.getD m 0 = b0 at *
  generalize hb1 : c.stack.getD (m + 1) 0 = b1 at *
  generalize hb2 : c.stack.getD (m + 2) 0 = b2 at *
  generalize hb3 : c.stack.getD (m + 3) 0 = b3 at *
  go_region_held3 (fun W => W.cell? ⟨w.heap.size + 1, 0, none⟩ = some (.slice (some ⟨g, off, none⟩) 32 y1) ∧ W.cell? ⟨w.heap.size + 1 + 1, 2, none⟩ = some (.int .i64 (s1 : Int)) ∧ W.cell? ⟨w.heap.size + 1 + 1, 4, none⟩ = some (.int .i64 im) ∧ W.cell? ⟨g, off + s1, none⟩ = some (.int .u32 a)) (go_simp) (fail)
  obtain ⟨hn2, hn3, hm4, hmA, hml, hdl, hsl⟩ := HN.out
  rw [hmA] at hm4
  have hv : IntKind.i64.wrap (IntKind.u32.wrap (a + IntKind.u32.wrap im)) = 1073741824 - (n3 : Int) + (m : Int) := by
    simp only [IntKind.wrap_u32, IntKind.wrap_i64]
    omega
  rw [hv]
  have i0 : (m : Int) + 4 ≤ (n3 : Int) := by omega
  have i1 : (0 : Int) ≤ (m : Int) := by omega
  have ht4 : Int.tmod (1073741824 - (n3 : Int) + (m : Int)) 4 = 0 := by rw [Int.tmod_eq_emod_of_nonneg (by omega)]; omega
  have HM : Hid _ := And.intro hml (And.intro hdl (And.intro hsl (And.intro hm4 (And.intro hmA (And.intro hn2 hn3)))))
  clear hn2 hn3 hm4 hml hdl hsl HN hmA hv
  have i2 : ¬ (1073741824 - (n3 : Int) + (m : Int) - 1048576 < 0) := by omega
  have i3 : (n2 : Int) < 1073741824 - (n3 : Int) + (m : Int) - 1048576 + 4 := by omega
  go_upto_region 7 with fail
  rw [show (1073741824 - (n3 : Int) + (m : Int) - (1073741824 - (n3 : Int))) = (m : Int) by omega]
  go_wp2_with fail
  refine bodyPost_ret (v := .agg #[.slice (some ⟨g, off, none⟩) 32 y1, .int .u32 ((c.pc + 4) % 4294967296), .slice x2 n2 y2, .slice (some ⟨gd, od, none⟩) n3 y3, .slice x4 n4 y4, .slice x5 n5 y5, .int .u32 c.low, .int .i64 c.st]) (by simp [results, Try.results79, go_sem, z0, z1, z2, z3, z4, z5, z6, z7]) rfl ?_
  obtain ⟨hv, A4, hI, hb⟩ := HX.out
  have hl := hv.lt
  have T := fun (W9 : World) => ((Tcs.refl (fun k => w.heap.size ≤ k) W9).setCell (p := ⟨w.heap.size + 1, 1, none⟩) (by show _ ≤ _; dsimp only; omega) (.int .u32 ((c.pc + 4) % 4294967296))).set8 (w.heap.size + 1 + 1 + 1) (by omega) (.slice (some ⟨g, off, none⟩) 32 y1) (.int .u32 ((c.pc + 4) % 4294967296)) (.slice x2 n2 y2) (.slice (some ⟨gd, od, none⟩) n3 y3) (.slice x4 n4 y4) (.slice x5 n5 y5) (.int .u32 c.low) (.int .i64 c.st) |>.drewN 1
  have k3 := ((hv.below A4).tcs (T _) (fun x hx h => by have := hl x hx; omega)).pc ((c.pc + 4) % 4294967296)
  refine ⟨_, rfl, ?_, ?_⟩
  · rw [setR_zero]
    exact k3
  · exact ((Below.tcs (S := fun x => x ∈ L) A4).setNew (p := ⟨w.heap.size + 1, 1, none⟩) (by dsimp only; omega) _).new8 _ (by omega) _ _ _ _ _ _ _ _ |>.drewN 1


set_option maxRecDepth 8000 in
set_option maxHeartbeats 1000000 in
theorem memLS (ma : Option Addr) (mn mc' : Nat) (md mb : Int) (v : Value) (L : List Nat) (c : Mc)  (rd s1 s2 : Nat) (im : Int) (w : World) (hG : Good c) (h : CpuV w v L c) (m : Nat) (hrd : rd < 32) (h1 : s1 < 32) (h2 : s2 < 32)
    (hmb : mb = (c.stack.length : Int)) (hm : inS c ((c.regs.getD s1 0 + im) % 4294967296) m) :
    Calls Try.prog 79 #[.agg #[.slice ma mn mc', .int .i64 md, .int .i64 mb], v, .agg #[.int .i64 10, .int .i64 rd, .int .i64 s1, .int .i64 s2, .int .i64 im]] w fun e w' =>
      ∃ u, e = .returned u ∧ CpuV w' u L { setR c rd (word4 c.stack m) with pc := (c.pc + 4) % 4294967296 } ∧ Tcs (fun g => g ∈ L) w w' := by
  by_cases h0 : 0 < rd
  · exact memLS1 ma mn mc' md mb v L c rd s1 s2 im w hG h m h0 hrd h1 h2 hmb hm
  · obtain rfl : rd = 0 := by omega
    exact memLS0 ma mn mc' md mb v L c s1 s2 im w hG h m h1 h2 hmb hm


set_option maxRecDepth 8000 in
set_option maxHeartbeats 1000000 in
theorem memWS (ma : Option Addr) (mn mc' : Nat) (md mb : Int) (v : Value) (L : List Nat) (c : Mc)  (rd s1 s2 : Nat) (im : Int) (w : World) (hG : Good c) (h : CpuV w v L c) (m : Nat) (hrd : rd < 32) (h1 : s1 < 32) (h2 : s2 < 32)
    (hmb : mb = (c.stack.length : Int)) (hm : inS c ((c.regs.getD s1 0 + im) % 4294967296) m) :
    Calls Try.prog 79 #[.agg #[.slice ma mn mc', .int .i64 md, .int .i64 mb], v, .agg #[.int .i64 11, .int .i64 rd, .int .i64 s1, .int .i64 s2, .int .i64 im]] w fun e w' =>
      ∃ u, e = .returned u ∧ CpuV w' u L { c with stack := put4 c.stack m (c.regs.getD s2 0), pc := (c.pc + 4) % 4294967296 } ∧ Tcs (fun g => g ∈ L) w w' := by
  obtain ⟨g, off, y1, n2, n3, n4, n5, x2, y2, x3, y3, x4, y4, x5, y5, rfl, hbk⟩ := h.shape32 hG.r32
  have A4 : Below w.heap.size w ((((w.alloc (.cells #[.slice ma mn mc', .int .i64 md, .int .i64 mb] 25)).alloc (.cells #[.slice (some ⟨g, off, none⟩) 32 y1, .int .u32 c.pc, .slice x2 n2 y2, .slice x3 n3 y3, .slice x4 n4 y4, .slice x5 n5 y5, .int .u32 c.low, .int .i64 c.st] 32)).alloc (.cells #[.int .i64 11, .int .i64 rd, .int .i64 s1, .int .i64 s2, .int .i64 im] 64)).alloc (.cells #[.slice none 0 0, .int .u32 0, .slice none 0 0, .slice none 0 0, .slice none 0 0, .slice none 0 0, .int .u32 0, .int .i64 0] 32)) := ((((Below.refl _ _).alloc (Nat.le_refl _) _).alloc (by simp) _).alloc (by simp; omega) _).alloc (by simp; omega) _
  have hCb : ((((w.alloc (.cells #[.slice ma mn mc', .int .i64 md, .int .i64 mb] 25)).alloc (.cells #[.slice (some ⟨g, off, none⟩) 32 y1, .int .u32 c.pc, .slice x2 n2 y2, .slice x3 n3 y3, .slice x4 n4 y4, .slice x5 n5 y5, .int .u32 c.low, .int .i64 c.st] 32)).alloc (.cells #[.int .i64 11, .int .i64 rd, .int .i64 s1, .int .i64 s2, .int .i64 im] 64)).alloc (.cells #[.slice none 0 0, .int .u32 0, .slice none 0 0, .slice none 0 0, .slice none 0 0, .slice none 0 0, .int .u32 0, .int .i64 0] 32)).heap[w.heap.size + 1]? = some (.cells #[.slice (some ⟨g, off, none⟩) 32 y1, .int .u32 c.pc, .slice x2 n2 y2, .slice x3 n3 y3, .slice x4 n4 y4, .slice x5 n5 y5, .int .u32 c.low, .int .i64 c.st] 32) := by
    rw [Below.heap_alloc _ _ _ (by simp), Below.heap_alloc _ _ _ (by simp)]
    have := heap_alloc_new (w.alloc (.cells #[.slice ma mn mc', .int .i64 md, .int .i64 mb] 25)) (.cells #[.slice (some ⟨g, off, none⟩) 32 y1, .int .u32 c.pc, .slice x2 n2 y2, .slice x3 n3 y3, .slice x4 n4 y4, .slice x5 n5 y5, .int .u32 c.low, .int .i64 c.st] 32)
    simpa only [World.size_alloc] using this
  have hI := h.boxed A4 hCb (by omega)
  obtain ⟨rv, d, s, i, o, hb, hr, hd, hs, hi, ho, hk, hL, hnd⟩ := id hI
  obtain rfl := Option.some.inj (hb.c0.symm.trans (Bx.of_heap hCb).c0)
  have hR := row_of hr hG.r32
  have cs1 := hR.cell s1 (by have := hG.r32; omega)
  have cs2 := hR.cell s2 (by have := hG.r32; omega)
  have hgw : g < w.heap.size := h.lt g hbk
  have e1 : ¬ g = w.heap.size := by omega
  have e2 : ¬ g = w.heap.size + 1 := by omega
  have e3 : ¬ g = w.heap.size + 1 + 1 := by omega
  have e4 : ¬ g = w.heap.size + 1 + 1 + 1 := by omega
  have cR := hR.cell rd (by have := hG.r32; omega)
  have fR := hR.froz (off + rd)
  have hn2 : n2 = c.data.length := (dat_len h).1
  have hn3 : n3 = c.stack.length := (stk_len h).1
  have hu1 := hG.ru s1 h1
  have hu2 := hG.ru s2 h2
  have hdl := hG.dl
  have hsl := hG.sl
  obtain ⟨hm4, hmA, hml⟩ := hm
  obtain ⟨gd, od, rfl, hRd, hgdL, hgdr⟩ := stk_row h (by omega)
  have hgdg : gd ≠ g := hgdr g (by simp [blk])
  have hgdw : gd < w.heap.size := h.lt gd hgdL
  have f1 : ¬ gd = w.heap.size := by omega
  have f2 : ¬ gd = w.heap.size + 1 := by omega
  have f3 : ¬ gd = w.heap.size + 1 + 1 := by omega
  have f4 : ¬ gd = w.heap.size + 1 + 1 + 1 := by omega
  have HR : Hid (Row .u8 w gd od c.stack) := hRd
  have d0 := hG.su m (by omega)
  have d1 := hG.su (m + 1) (by omega)
  have d2 := hG.su (m + 2) (by omega)
  have d3 := hG.su (m + 3) (by omega)
  rw [← hn3] at hmb
  subst hmb
  rw [← hn3] at hml
  rw [← hn3] at hmA
  have HN : Hid _ := And.intro hn2 (And.intro hn3 (And.intro hm4 (And.intro hmA (And.intro hml (And.intro hdl hsl)))))
  have hs1 : (s1 : Int) < 32 := by omega
  have hs1' : (0 : Int) ≤ (s1 : Int) := by omega
  have hs2 : (s2 : Int) < 32 := by omega
  have hs2' : (0 : Int) ≤ (s2 : Int) := by omega
  have hrd1 : (rd : Int) < 32 := by omega
  have hrd1' : (0 : Int) ≤ (rd : Int) := by omega
  skip
  have hdl2 : (n2 : Int) ≤ 65536 := by omega
  have hsl2 : (n3 : Int) ≤ 1000000 := by omega
  clear hn2 hn3 hdl hsl hm4 hmA hml hRd hgdr
  have HX : Hid _ := And.intro h (And.intro A4 (And.intro hI (Bx.of_heap hCb)))
  clear hb hr hR hd hs hi ho hk hL hnd h A4 hCb hI hbk
  generalize hx1 : c.regs.getD s1 0 = a at *
  generalize hx2 : c.regs.getD s2 0 = b at *
  go_enter Try.func79, Try.ntmps79
  go_wp2_with fail
  have hW : ∃ W, W = ((((w.alloc (.cells #[.slice ma mn mc', .int .i64 md, .int .i64 (n3 : Int)] 25)).alloc (.cells #[.slice (some ⟨g, off, none⟩) 32 y1, .int .u32 c.pc, .slice x2 n2 y2, .slice (some ⟨gd, od, none⟩) n3 y3, .slice x4 n4 y4, .slice x5 n5 y5, .int .u32 c.low, .int .i64 c.st] 32)).alloc (.cells #[.int .i64 11, .int .i64 rd, .int .i64 s1, .int .i64 s2, .int .i64 im] 64)).alloc (.cells #[.slice none 0 0, .int .u32 0, .slice none 0 0, .slice none 0 0, .slice none 0 0, .slice none 0 0, .int .u32 0, .int .i64 0] 32)) := ⟨_, rfl⟩
  obtain ⟨W, hW⟩ := hW
  rw [← hW]
  have u1 : W.heap[w.heap.size]? = some (.cells #[.slice ma mn mc', .int .i64 md, .int .i64 (n3 : Int)] 25) := by
    rw [hW, Below.heap_alloc _ _ _ (by simp; omega), Below.heap_alloc _ _ _ (by simp; omega), Below.heap_alloc _ _ _ (by simp)]
    exact heap_alloc_new _ _
  have u3 : W.heap[w.heap.size + 1 + 1]? = some (.cells #[.int .i64 11, .int .i64 rd, .int .i64 s1, .int .i64 s2, .int .i64 im] 64) := by
    rw [hW, Below.heap_alloc _ _ _ (by simp)]
    have := heap_alloc_new ((w.alloc (.cells #[.slice ma mn mc', .int .i64 md, .int .i64 (n3 : Int)] 25)).alloc (.cells #[.slice (some ⟨g, off, none⟩) 32 y1, .int .u32 c.pc, .slice x2 n2 y2, .slice (some ⟨gd, od, none⟩) n3 y3, .slice x4 n4 y4, .slice x5 n5 y5, .int .u32 c.low, .int .i64 c.st] 32)) (.cells #[.int .i64 11, .int .i64 rd, .int .i64 s1, .int .i64 s2, .int .i64 im] 64)
    simpa only [World.size_alloc] using this
  have u4 : W.heap[w.heap.size + 1 + 1 + 1]? = some (.cells #[.slice none 0 0, .int .u32 0, .slice none 0 0, .slice none 0 0, .slice none 0 0, .slice none 0 0, .int .u32 0, .int .i64 0] 32) := by
    rw [hW]
    have := heap_alloc_new (((w.alloc (.cells #[.slice ma mn mc', .int .i64 md, .int .i64 (n3 : Int)] 25)).alloc (.cells #[.slice (some ⟨g, off, none⟩) 32 y1, .int .u32 c.pc, .slice x2 n2 y2, .slice (some ⟨gd, od, none⟩) n3 y3, .slice x4 n4 y4, .slice x5 n5 y5, .int .u32 c.low, .int .i64 c.st] 32)).alloc (.cells #[.int .i64 11, .int .i64 rd, .int .i64 s1, .int .i64 s2, .int .i64 im] 64)) (.cells #[.slice none 0 0, .int .u32 0, .slice none 0 0, .slice none 0 0, .slice none 0 0, .slice none 0 0, .int .u32 0, .int .i64 0] 32)
    simpa only [World.size_alloc] using this
  have hsz : W.heap.size = w.heap.size + 4 := by rw [hW]; simp
  have q2 := cell_of u1 (j := 2) rfl
  have p0 := cell_of u3 (j := 0) rfl
  have p1 := cell_of u3 (j := 1) rfl
  have p2 := cell_of u3 (j := 2) rfl
  have p3 := cell_of u3 (j := 3) rfl
  have p4 := cell_of u3 (j := 4) rfl
  rw [← hW] at HX cs1 cs2 cR fR
  have B1 := HX.out.2.2.2
  have B4 := Bx.of_heap u4
  obtain ⟨c0, c1, c2, c3, c4, c5, c6, c7, cf⟩ := id B1
  obtain ⟨z0, z1, z2, z3, z4, z5, z6, z7, zf⟩ := id B4
  have HW : Hid _ := And.intro hsz (And.intro B1 B4)
  clear hW u1 u3 u4 B1 B4 hsz
  have BW := HX.out.2.1
  have r0 := (HR.out.below BW).cell m (by have := HN.out; omega)
  have r1 := (HR.out.below BW).cell (m + 1) (by have := HN.out; omega)
  have r2 := (HR.out.below BW).cell (m + 2) (by have := HN.out; omega)
  have r3 := (HR.out.below BW).cell (m + 3) (by have := HN.out; omega)
  have fz := (HR.out.below BW).froz
  clear BW
  generalize hb0 : c.stack.getD m 0 = b0 at *
  generalize hb1 : c.stack.getD (m + 1) 0 = b1 at *
  generalize hb2 : c.stack.getD (m + 2) 0 = b2 at *
  generalize hb3 : c.stack.getD (m + 3) 0 = b3 at *
  go_region_held3 (fun W => W.cell? ⟨w.heap.size + 1, 0, none⟩ = some (.slice (some ⟨g, off, none⟩) 32 y1) ∧ W.cell? ⟨w.heap.size + 1 + 1, 2, none⟩ = some (.int .i64 (s1 : Int)) ∧ W.cell? ⟨w.heap.size + 1 + 1, 4, none⟩ = some (.int .i64 im) ∧ W.cell? ⟨g, off + s1, none⟩ = some (.int .u32 a)) (go_simp) (fail)
  obtain ⟨hn2, hn3, hm4, hmA, hml, hdl, hsl⟩ := HN.out
  rw [hmA] at hm4
  have hv : IntKind.i64.wrap (IntKind.u32.wrap (a + IntKind.u32.wrap im)) = 1073741824 - (n3 : Int) + (m : Int) := by
    simp only [IntKind.wrap_u32, IntKind.wrap_i64]
    omega
  rw [hv]
  have i0 : (m : Int) + 4 ≤ (n3 : Int) := by omega
  have i1 : (0 : Int) ≤ (m : Int) := by omega
  have ht4 : Int.tmod (1073741824 - (n3 : Int) + (m : Int)) 4 = 0 := by rw [Int.tmod_eq_emod_of_nonneg (by omega)]; omega
  have HM : Hid _ := And.intro hml (And.intro hdl (And.intro hsl (And.intro hm4 (And.intro hmA (And.intro hn2 hn3)))))
  clear hn2 hn3 hm4 hml hdl hsl HN hmA hv
  have i2 : ¬ (1073741824 - (n3 : Int) + (m : Int) - 1048576 < 0) := by omega
  have i3 : (n2 : Int) < 1073741824 - (n3 : Int) + (m : Int) - 1048576 + 4 := by omega
  go_upto_region 7 with fail
  rw [show (1073741824 - (n3 : Int) + (m : Int) - (1073741824 - (n3 : Int))) = (m : Int) by omega]
  go_wp2_with fail
  refine wp_loop_rounds 5 ?_
  rw [rounds_succ]
  go_wp2_with fail
  rw [rounds_succ]
  go_wp2_with fail
  rw [rounds_succ]
  go_wp2_with fail
  rw [rounds_succ]
  go_wp2_with fail
  rw [rounds_succ]
  go_wp2_with fail
  refine bodyPost_ret (v := .agg #[.slice (some ⟨g, off, none⟩) 32 y1, .int .u32 ((c.pc + 4) % 4294967296), .slice x2 n2 y2, .slice (some ⟨gd, od, none⟩) n3 y3, .slice x4 n4 y4, .slice x5 n5 y5, .int .u32 c.low, .int .i64 c.st]) (by simp [results, Try.results79, go_sem, z0, z1, z2, z3, z4, z5, z6, z7]) rfl ?_
  obtain ⟨hv, A4, hI, hb⟩ := HX.out
  have hl := hv.lt
  have BW := HX.out.2.1
  have hRW := (HR.out.below A4).put4 (o := m) (v := b) (by have := HM.out; omega)
  have k0 := (hv.below A4).stk (by have := HM.out; omega) ((((Tcs.refl (fun k => k = gd) _).setCell (p := ⟨gd, od + m, none⟩) rfl _).setCell (p := ⟨gd, od + m + 1, none⟩) rfl _).setCell (p := ⟨gd, od + m + 2, none⟩) rfl _ |>.setCell (p := ⟨gd, od + m + 3, none⟩) rfl _) (put4_len _ _ _) hRW
  have T := fun (W9 : World) => ((Tcs.refl (fun k => w.heap.size ≤ k) W9).setCell (p := ⟨w.heap.size + 1, 1, none⟩) (by show _ ≤ _; dsimp only; omega) (.int .u32 ((c.pc + 4) % 4294967296))).set8 (w.heap.size + 1 + 1 + 1) (by omega) (.slice (some ⟨g, off, none⟩) 32 y1) (.int .u32 ((c.pc + 4) % 4294967296)) (.slice x2 n2 y2) (.slice (some ⟨gd, od, none⟩) n3 y3) (.slice x4 n4 y4) (.slice x5 n5 y5) (.int .u32 c.low) (.int .i64 c.st) |>.drewN 1
  have k3 := (k0.tcs (T _) (fun x hx h => by have := hl x hx; omega)).pc ((c.pc + 4) % 4294967296)
  have q1 : b / 256 / 256 % 256 = b / 65536 % 256 := by omega
  have q2 : b / 256 / 256 / 256 % 256 = b / 16777216 := by omega
  refine ⟨_, rfl, ?_, ?_⟩
  · rw [q1, q2]
    exact k3
  · exact (((((Below.tcs (S := fun x => x ∈ L) A4).setCell (p := ⟨gd, od + m, none⟩) hgdL _).setCell (p := ⟨gd, od + (m + 1), none⟩) hgdL _).setCell (p := ⟨gd, od + (m + 2), none⟩) hgdL _).setCell (p := ⟨gd, od + (m + 3), none⟩) hgdL _).setNew (p := ⟨w.heap.size + 1, 1, none⟩) (by dsimp only; omega) _ |>.new8 _ (by omega) _ _ _ _ _ _ _ _ |>.drewN 1

end Go.Proofs.Ytabjcodpagjbjaa

namespace Go.Proofs.Ytabjcodpagjbjaa
open Go.RowKit
set_option linter.unusedVariables false
set_option linter.unusedSimpArgs false

set_option maxRecDepth 8000 in
set_option maxHeartbeats 1000000 in
theorem doR1 (ma : Option Addr) (mn mc' : Nat) (md mb : Int) (v : Value) (L : List Nat) (c : Mc) (op r : Int) (rd s1 s2 : Nat) (im : Int) (w : World) (hG : Good c) (h : CpuV w v L c) (hop : 21 ≤ op ∧ op ≤ 33) (h0 : 0 < rd) (hrd : rd < 32) (h1 : s1 < 32) (h2 : s2 < 32)
    (hA : AluIs op (c.regs.getD s1 0) (c.regs.getD s2 0) r) :
    Calls Try.prog 62 #[.agg #[.slice ma mn mc', .int .i64 md, .int .i64 mb], v, .agg #[.int .i64 op, .int .i64 rd, .int .i64 s1, .int .i64 s2, .int .i64 im]] w fun e w' =>
      ∃ u, e = .returned u ∧ CpuV w' u L { setR c rd r with pc := (c.pc + 4) % 4294967296 } ∧ Tcs (fun g => g ∈ L) w w' := by
  obtain ⟨g, off, y1, n2, n3, n4, n5, x2, y2, x3, y3, x4, y4, x5, y5, rfl, hbk⟩ := h.shape32 hG.r32
  have A4 : Below w.heap.size w ((((w.alloc (.cells #[.slice ma mn mc', .int .i64 md, .int .i64 mb] 25)).alloc (.cells #[.slice (some ⟨g, off, none⟩) 32 y1, .int .u32 c.pc, .slice x2 n2 y2, .slice x3 n3 y3, .slice x4 n4 y4, .slice x5 n5 y5, .int .u32 c.low, .int .i64 c.st] 32)).alloc (.cells #[.int .i64 op, .int .i64 rd, .int .i64 s1, .int .i64 s2, .int .i64 im] 64)).alloc (.cells #[.slice none 0 0, .int .u32 0, .slice none 0 0, .slice none 0 0, .slice none 0 0, .slice none 0 0, .int .u32 0, .int .i64 0] 32)) := ((((Below.refl _ _).alloc (Nat.le_refl _) _).alloc (by simp) _).alloc (by simp; omega) _).alloc (by simp; omega) _
  have hCb : ((((w.alloc (.cells #[.slice ma mn mc', .int .i64 md, .int .i64 mb] 25)).alloc (.cells #[.slice (some ⟨g, off, none⟩) 32 y1, .int .u32 c.pc, .slice x2 n2 y2, .slice x3 n3 y3, .slice x4 n4 y4, .slice x5 n5 y5, .int .u32 c.low, .int .i64 c.st] 32)).alloc (.cells #[.int .i64 op, .int .i64 rd, .int .i64 s1, .int .i64 s2, .int .i64 im] 64)).alloc (.cells #[.slice none 0 0, .int .u32 0, .slice none 0 0, .slice none 0 0, .slice none 0 0, .slice none 0 0, .int .u32 0, .int .i64 0] 32)).heap[w.heap.size + 1]? = some (.cells #[.slice (some ⟨g, off, none⟩) 32 y1, .int .u32 c.pc, .slice x2 n2 y2, .slice x3 n3 y3, .slice x4 n4 y4, .slice x5 n5 y5, .int .u32 c.low, .int .i64 c.st] 32) := by
    rw [Below.heap_alloc _ _ _ (by simp), Below.heap_alloc _ _ _ (by simp)]
    have := heap_alloc_new (w.alloc (.cells #[.slice ma mn mc', .int .i64 md, .int .i64 mb] 25)) (.cells #[.slice (some ⟨g, off, none⟩) 32 y1, .int .u32 c.pc, .slice x2 n2 y2, .slice x3 n3 y3, .slice x4 n4 y4, .slice x5 n5 y5, .int .u32 c.low, .int .i64 c.st] 32)
    simpa only [World.size_alloc] using this
  have hI := h.boxed A4 hCb (by omega)
  obtain ⟨rv, d, s, i, o, hb, hr, hd, hs, hi, ho, hk, hL, hnd⟩ := id hI
  obtain rfl := Option.some.inj (hb.c0.symm.trans (Bx.of_heap hCb).c0)
  have hR := row_of hr hG.r32
  have cs1 := hR.cell s1 (by have := hG.r32; omega)
  have cs2 := hR.cell s2 (by have := hG.r32; omega)
  have hgw : g < w.heap.size := h.lt g hbk
  have e1 : ¬ g = w.heap.size := by omega
  have e2 : ¬ g = w.heap.size + 1 := by omega
  have e3 : ¬ g = w.heap.size + 1 + 1 := by omega
  have e4 : ¬ g = w.heap.size + 1 + 1 + 1 := by omega
  have cR := hR.cell rd (by have := hG.r32; omega)
  have fR := hR.froz (off + rd)
  have o1 : ¬ op = 10 := by omega
  have o2 : ¬ op = 11 := by omega
  have o3 : ¬ op = 34 := by omega
  have o4 : (op == 10 || op == 11) = false := by simp [o1, o2]
  have HI : Hid _ := hA
  clear hA
  have h0' : (0 : Int) < (rd : Int) := by omega
  have HX : Hid _ := And.intro h (And.intro A4 (And.intro hI (Bx.of_heap hCb)))
  clear hb hr hR hd hs hi ho hk hL hnd h A4 hCb hI hbk
  generalize hx1 : c.regs.getD s1 0 = a at *
  generalize hx2 : c.regs.getD s2 0 = b at *
  go_enter Try.func62, Try.ntmps62
  go_wp2_with (first | (go_at_call 53; refine (shapeR op _ hop).mono ?_; rintro e w1 ⟨rfl, rfl⟩) | (go_at_call 82; refine (HI.out.2.2 _).mono ?_; rintro e w2 ⟨rfl, rfl⟩))
  refine bodyPost_ret (v := .agg #[.slice (some ⟨g, off, none⟩) 32 y1, .int .u32 ((c.pc + 4) % 4294967296), .slice x2 n2 y2, .slice x3 n3 y3, .slice x4 n4 y4, .slice x5 n5 y5, .int .u32 c.low, .int .i64 c.st])
    (by simp [results, Try.results62, go_sem]) rfl ?_
  obtain ⟨hv, A4, hI, hb⟩ := HX.out
  have hl := hv.lt
  obtain ⟨k0, hgL⟩ := hI.set (v := r) hb hG.r32 hrd h0
  have b0 := hb.other (p := ⟨g, off + rd, none⟩) (fun e => e2 e.symm) (.int .u32 (r))
  have k1 := k0.pc ((c.pc + 4) % 4294967296)
  have b1 := b0.s1 (.int .u32 ((c.pc + 4) % 4294967296))
  have hgL' : g ∈ L := by
    rw [List.mem_cons] at hgL
    exact hgL.resolve_left e2
  have hv2 := CpuIn.giveBack (w := w) (R := w.heap.size + 1 + 1 + 1) k1 b1 ((Tcs.refl (fun k => k = w.heap.size + 1 + 1 + 1) _).set8 _ rfl (.slice (some ⟨g, off, none⟩) 32 y1) (.int .u32 ((c.pc + 4) % 4294967296)) (.slice x2 n2 y2) (.slice x3 n3 y3) (.slice x4 n4 y4) (.slice x5 n5 y5) (.int .u32 c.low) (.int .i64 c.st)) (by omega) hl
  refine ⟨_, rfl, ?_, ?_⟩
  · dsimp only at hv2 ⊢
    rw [setR_low, setR_st] at hv2 ⊢
    exact hv2
  · exact ((((Below.tcs (S := fun x => x ∈ L) A4)).setCell (p := ⟨g, off + rd, none⟩) hgL' _).setNew (p := ⟨w.heap.size + 1, 1, none⟩) (by dsimp only; omega) _).new8 _ (by omega) _ _ _ _ _ _ _ _


set_option maxRecDepth 8000 in
set_option maxHeartbeats 1000000 in
theorem doR0 (ma : Option Addr) (mn mc' : Nat) (md mb : Int) (v : Value) (L : List Nat) (c : Mc) (op r : Int) (s1 s2 : Nat) (im : Int) (w : World) (hG : Good c) (h : CpuV w v L c) (hop : 21 ≤ op ∧ op ≤ 33)  (h1 : s1 < 32) (h2 : s2 < 32)
    (hA : AluIs op (c.regs.getD s1 0) (c.regs.getD s2 0) r) :
    Calls Try.prog 62 #[.agg #[.slice ma mn mc', .int .i64 md, .int .i64 mb], v, .agg #[.int .i64 op, .int .i64 0, .int .i64 s1, .int .i64 s2, .int .i64 im]] w fun e w' =>
      ∃ u, e = .returned u ∧ CpuV w' u L { setR c 0 r with pc := (c.pc + 4) % 4294967296 } ∧ Tcs (fun g => g ∈ L) w w' := by
  obtain ⟨g, off, y1, n2, n3, n4, n5, x2, y2, x3, y3, x4, y4, x5, y5, rfl, hbk⟩ := h.shape32 hG.r32
  have A4 : Below w.heap.size w ((((w.alloc (.cells #[.slice ma mn mc', .int .i64 md, .int .i64 mb] 25)).alloc (.cells #[.slice (some ⟨g, off, none⟩) 32 y1, .int .u32 c.pc, .slice x2 n2 y2, .slice x3 n3 y3, .slice x4 n4 y4, .slice x5 n5 y5, .int .u32 c.low, .int .i64 c.st] 32)).alloc (.cells #[.int .i64 op, .int .i64 0, .int .i64 s1, .int .i64 s2, .int .i64 im] 64)).alloc (.cells #[.slice none 0 0, .int .u32 0, .slice none 0 0, .slice none 0 0, .slice none 0 0, .slice none 0 0, .int .u32 0, .int .i64 0] 32)) := ((((Below.refl _ _).alloc (Nat.le_refl _) _).alloc (by simp) _).alloc (by simp; omega) _).alloc (by simp; omega) _
  have hCb : ((((w.alloc (.cells #[.slice ma mn mc', .int .i64 md, .int .i64 mb] 25)).alloc (.cells #[.slice (some ⟨g, off, none⟩) 32 y1, .int .u32 c.pc, .slice x2 n2 y2, .slice x3 n3 y3, .slice x4 n4 y4, .slice x5 n5 y5, .int .u32 c.low, .int .i64 c.st] 32)).alloc (.cells #[.int .i64 op, .int .i64 0, .int .i64 s1, .int .i64 s2, .int .i64 im] 64)).alloc (.cells #[.slice none 0 0, .int .u32 0, .slice none 0 0, .slice none 0 0, .slice none 0 0, .slice none 0 0, .int .u32 0, .int .i64 0] 32)).heap[w.heap.size + 1]? = some (.cells #[.slice (some ⟨g, off, none⟩) 32 y1, .int .u32 c.pc, .slice x2 n2 y2, .slice x3 n3 y3, .slice x4 n4 y4, .slice x5 n5 y5, .int .u32 c.low, .int .i64 c.st] 32) := by
    rw [Below.heap_alloc _ _ _ (by simp), Below.heap_alloc _ _ _ (by simp)]
    have := heap_alloc_new (w.alloc (.cells #[.slice ma mn mc', .int .i64 md, .int .i64 mb] 25)) (.cells #[.slice (some ⟨g, off, none⟩) 32 y1, .int .u32 c.pc, .slice x2 n2 y2, .slice x3 n3 y3, .slice x4 n4 y4, .slice x5 n5 y5, .int .u32 c.low, .int .i64 c.st] 32)
    simpa only [World.size_alloc] using this
  have hI := h.boxed A4 hCb (by omega)
  obtain ⟨rv, d, s, i, o, hb, hr, hd, hs, hi, ho, hk, hL, hnd⟩ := id hI
  obtain rfl := Option.some.inj (hb.c0.symm.trans (Bx.of_heap hCb).c0)
  have hR := row_of hr hG.r32
  have cs1 := hR.cell s1 (by have := hG.r32; omega)
  have cs2 := hR.cell s2 (by have := hG.r32; omega)
  have hgw : g < w.heap.size := h.lt g hbk
  have e1 : ¬ g = w.heap.size := by omega
  have e2 : ¬ g = w.heap.size + 1 := by omega
  have e3 : ¬ g = w.heap.size + 1 + 1 := by omega
  have e4 : ¬ g = w.heap.size + 1 + 1 + 1 := by omega
  have o1 : ¬ op = 10 := by omega
  have o2 : ¬ op = 11 := by omega
  have o3 : ¬ op = 34 := by omega
  have o4 : (op == 10 || op == 11) = false := by simp [o1, o2]
  have HI : Hid _ := hA
  clear hA
  have HX : Hid _ := And.intro h (And.intro A4 (And.intro hI (Bx.of_heap hCb)))
  clear hb hr hR hd hs hi ho hk hL hnd h A4 hCb hI hbk
  generalize hx1 : c.regs.getD s1 0 = a at *
  generalize hx2 : c.regs.getD s2 0 = b at *
  go_enter Try.func62, Try.ntmps62
  go_wp2_with (first | (go_at_call 53; refine (shapeR op _ hop).mono ?_; rintro e w1 ⟨rfl, rfl⟩) | (go_at_call 82; refine (HI.out.2.2 _).mono ?_; rintro e w2 ⟨rfl, rfl⟩))
  refine bodyPost_ret (v := .agg #[.slice (some ⟨g, off, none⟩) 32 y1, .int .u32 ((c.pc + 4) % 4294967296), .slice x2 n2 y2, .slice x3 n3 y3, .slice x4 n4 y4, .slice x5 n5 y5, .int .u32 c.low, .int .i64 c.st])
    (by simp [results, Try.results62, go_sem]) rfl ?_
  obtain ⟨hv, A4, hI, hb⟩ := HX.out
  have B4 := fun o1 o2 o3 o4 => ((((Below.refl w.heap.size w).alloc (Nat.le_refl _) o1).alloc (by simp) o2).alloc (by simp; omega) o3).alloc (by simp; omega) o4
  refine ⟨_, rfl, ?_, Below.tcs (B4 _ _ _ _)⟩
  rw [setR_zero]
  exact (hv.pc _).below (B4 _ _ _ _)

end Go.Proofs.Ytabjcodpagjbjaa
