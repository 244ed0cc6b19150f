import Derived.Deep.Cut
import Derived.Test.YtabjcodpagjbjaaGreatK07
import Derived.Test.YtabjcodpagjbjaaGreatK17
import Derived.Test.YtabjcodpagjbjaaGreatK42
namespace Go.Proofs.YtabjcodpagjbjaaGreat
open Go.RowKit
set_option linter.unusedVariables false
set_option linter.unusedSectionVars false
set_option linter.unusedSimpArgs false
variable [Inhabited Pick]

set_option maxRecDepth 8000 in
set_option maxHeartbeats 1000000 in
theorem sc_no1 (a : Option Addr) (len cap : Nat) (d bd : Int) (v : Value) (L : List Nat) (c : Mc) (w : World) (hl : len ≤ 1048576) (h : CpuV w v L c) (hs : c.regs.length ≤ 2097152 ∧ c.data.length ≤ 2097152 ∧ c.stack.length ≤ 2097152 ∧ c.inn.length ≤ 2097152 ∧ c.out.length ≤ 2097152) (hv : vimg len d bd = false) :
    Calls Tryz.prog 9 #[.agg #[.slice a len cap, .int .i64 d, .int .i64 bd], v] w fun e w' => ∃ u, e = .returned u ∧ CpuAt w' w.heap.size u zeroM ∧ Below w.heap.size w w' := by
  have hv0 := h
  obtain ⟨r, dv, sv, iv, ov, rfl, hr, hd, hs', hi, ho, hk, hLL, hnd⟩ := h
  have ho' := (Lis.of_own ho).1
  obtain ⟨x1, y1, rfl⟩ := hr.len0
  obtain ⟨x2, y2, rfl⟩ := hd.len0
  obtain ⟨x3, y3, rfl⟩ := hs'.len0
  obtain ⟨x4, y4, rfl⟩ := hi.len0
  obtain ⟨x5, y5, rfl⟩ := ho'.len0
  have B0 : Below w.heap.size w (((w.alloc (.cells #[.slice a len cap, .int .i64 d, .int .i64 bd] 34)).alloc (.cells #[.slice x1 c.regs.length y1, .int .u32 c.pc, .slice x2 c.data.length y2, .slice x3 c.stack.length y3, .slice x4 c.inn.length y4, .slice x5 c.out.length y5, .int .u32 c.low, .int .i64 c.st] 32)).alloc (.cells #[.slice none 0 0, .int .u32 0, .slice none 0 0, .slice none 0 0, .slice none 0 0, .slice none 0 0, .int .u32 0, .int .i64 0] 32)) := (((Below.refl _ _).alloc (Nat.le_refl _) _).alloc (by simp) _).alloc (by simp; omega) _
  have M0 : (((w.alloc (.cells #[.slice a len cap, .int .i64 d, .int .i64 bd] 34)).alloc (.cells #[.slice x1 c.regs.length y1, .int .u32 c.pc, .slice x2 c.data.length y2, .slice x3 c.stack.length y3, .slice x4 c.inn.length y4, .slice x5 c.out.length y5, .int .u32 c.low, .int .i64 c.st] 32)).alloc (.cells #[.slice none 0 0, .int .u32 0, .slice none 0 0, .slice none 0 0, .slice none 0 0, .slice none 0 0, .int .u32 0, .int .i64 0] 32)).heap[w.heap.size]? = some (.cells #[.slice a len cap, .int .i64 d, .int .i64 bd] 34) := by rw [Below.heap_alloc _ _ _ (by simp; omega), Below.heap_alloc _ _ _ (by simp)]; exact heap_alloc_new w _
  have C0 : Bx (((w.alloc (.cells #[.slice a len cap, .int .i64 d, .int .i64 bd] 34)).alloc (.cells #[.slice x1 c.regs.length y1, .int .u32 c.pc, .slice x2 c.data.length y2, .slice x3 c.stack.length y3, .slice x4 c.inn.length y4, .slice x5 c.out.length y5, .int .u32 c.low, .int .i64 c.st] 32)).alloc (.cells #[.slice none 0 0, .int .u32 0, .slice none 0 0, .slice none 0 0, .slice none 0 0, .slice none 0 0, .int .u32 0, .int .i64 0] 32)) (w.heap.size + 1) (.slice x1 c.regs.length y1) (.int .u32 c.pc) (.slice x2 c.data.length y2) (.slice x3 c.stack.length y3) (.slice x4 c.inn.length y4) (.slice x5 c.out.length y5) (.int .u32 c.low) (.int .i64 c.st) := Bx.of_heap (by rw [Below.heap_alloc _ _ _ (by simp)]; have := heap_alloc_new (w.alloc (.cells #[.slice a len cap, .int .i64 d, .int .i64 bd] 34)) (.cells #[.slice x1 c.regs.length y1, .int .u32 c.pc, .slice x2 c.data.length y2, .slice x3 c.stack.length y3, .slice x4 c.inn.length y4, .slice x5 c.out.length y5, .int .u32 c.low, .int .i64 c.st] 32); simpa only [World.size_alloc] using this)
  have R0 : Bx (((w.alloc (.cells #[.slice a len cap, .int .i64 d, .int .i64 bd] 34)).alloc (.cells #[.slice x1 c.regs.length y1, .int .u32 c.pc, .slice x2 c.data.length y2, .slice x3 c.stack.length y3, .slice x4 c.inn.length y4, .slice x5 c.out.length y5, .int .u32 c.low, .int .i64 c.st] 32)).alloc (.cells #[.slice none 0 0, .int .u32 0, .slice none 0 0, .slice none 0 0, .slice none 0 0, .slice none 0 0, .int .u32 0, .int .i64 0] 32)) (w.heap.size + 1 + 1) (.slice none 0 0) (.int .u32 0) (.slice none 0 0) (.slice none 0 0) (.slice none 0 0) (.slice none 0 0) (.int .u32 0) (.int .i64 0) := Bx.of_heap (by have := heap_alloc_new ((w.alloc (.cells #[.slice a len cap, .int .i64 d, .int .i64 bd] 34)).alloc (.cells #[.slice x1 c.regs.length y1, .int .u32 c.pc, .slice x2 c.data.length y2, .slice x3 c.stack.length y3, .slice x4 c.inn.length y4, .slice x5 c.out.length y5, .int .u32 c.low, .int .i64 c.st] 32)) (.cells #[.slice none 0 0, .int .u32 0, .slice none 0 0, .slice none 0 0, .slice none 0 0, .slice none 0 0, .int .u32 0, .int .i64 0] 32); simpa only [World.size_alloc] using this)
  obtain ⟨V0, hV0⟩ : ∃ V0, V0 = (((w.alloc (.cells #[.slice a len cap, .int .i64 d, .int .i64 bd] 34)).alloc (.cells #[.slice x1 c.regs.length y1, .int .u32 c.pc, .slice x2 c.data.length y2, .slice x3 c.stack.length y3, .slice x4 c.inn.length y4, .slice x5 c.out.length y5, .int .u32 c.low, .int .i64 c.st] 32)).alloc (.cells #[.slice none 0 0, .int .u32 0, .slice none 0 0, .slice none 0 0, .slice none 0 0, .slice none 0 0, .int .u32 0, .int .i64 0] 32)) := ⟨_, rfl⟩
  have z0 : V0.heap.size = w.heap.size + 3 := by rw [hV0]; simp
  rw [← hV0] at B0 M0 C0 R0
  have HV : Hid _ := And.intro hv0 hs
  have HB0 : Hid _ := And.intro B0 (And.intro M0 (And.intro C0 R0))
  clear hr hd hs' hi ho ho' hk hLL hnd hs B0 R0 hv0
  skip
  obtain ⟨c00, c01, c02, c03, c04, c05, c06, c07, c0f⟩ := id C0
  have m00 := cell_of M0 (j := 0) rfl
  have m01 := cell_of M0 (j := 1) rfl
  have m02 := cell_of M0 (j := 2) rfl
  clear M0 C0
  go_enter Tryz.func9, Tryz.ntmps9
  go_upto_region 1 with fail
  rw [← hV0]
  clear hV0
  go_wp2_with fail
  refine (vi_any a len cap d bd V0 hl).mono ?_
  rintro e w1 ⟨rfl, hb1⟩
  rw [hv]
  have s1 := hb1.size
  have B1 := HB0.out.1.trans (hb1.mono HB0.out.1.size)
  have M1 := (hb1.block w.heap.size (by omega)).trans HB0.out.2.1
  have C1 := HB0.out.2.2.1.below hb1
  have R1 := HB0.out.2.2.2.below hb1
  have HB1 : Hid _ := And.intro B1 (And.intro M1 (And.intro C1 R1))
  clear c00 c01 c02 c03 c04 c05 c06 c07 c0f m00 m01 m02 B1 R1 hb1
  obtain ⟨c00, c01, c02, c03, c04, c05, c06, c07, c0f⟩ := id C1
  have m00 := cell_of M1 (j := 0) rfl
  have m01 := cell_of M1 (j := 1) rfl
  have m02 := cell_of M1 (j := 2) rfl
  clear M1 C1
  obtain ⟨z00, z01, z02, z03, z04, z05, z06, z07, z0f⟩ := id HB1.out.2.2.2
  go_wp2
  refine bodyPost_ret (v := .agg #[.slice none 0 0, .int .u32 0, .slice none 0 0, .slice none 0 0, .slice none 0 0, .slice none 0 0, .int .u32 0, .int .i64 0]) (by simp [results, Tryz.results9, go_sem, z00, z01, z02, z03, z04, z05, z06, z07]) rfl ?_
  exact ⟨_, rfl, cpu_zero _ _, ((Tcs.refl (fun k => k = w.heap.size + 1 + 1) _).set8 _ rfl (.slice none 0 0) (.int .u32 0) (.slice none 0 0) (.slice none 0 0) (.slice none 0 0) (.slice none 0 0) (.int .u32 0) (.int .i64 0)).below HB1.out.1 HB1.out.1.size (by rintro k rfl; omega)⟩


theorem Tcs.six0x (W : World) (g : Nat) (u0 u1 u2 u3 u4 u5 : Value) : Tcs (fun k => k = g) W ((((((W.setCell ⟨g, 0, none⟩ u0).setCell ⟨g, 1, none⟩ u1).setCell ⟨g, 2, none⟩ u2).setCell ⟨g, 3, none⟩ u3).setCell ⟨g, 4, none⟩ u4).setCell ⟨g, 5, none⟩ u5) :=
  ((((((Tcs.refl (fun k => k = g) W).setCell (p := ⟨g, 0, none⟩) rfl u0).setCell (p := ⟨g, 1, none⟩) rfl u1).setCell (p := ⟨g, 2, none⟩) rfl u2).setCell (p := ⟨g, 3, none⟩) rfl u3).setCell (p := ⟨g, 4, none⟩) rfl u4).setCell (p := ⟨g, 5, none⟩) rfl u5


set_option maxRecDepth 8000 in
set_option maxHeartbeats 1000000 in
theorem sc_no2 (a : Option Addr) (len cap : Nat) (d bd : Int) (v : Value) (L : List Nat) (c : Mc) (w : World) (hl : len ≤ 1048576) (h : CpuV w v L c) (hs : c.regs.length ≤ 2097152 ∧ c.data.length ≤ 2097152 ∧ c.stack.length ≤ 2097152 ∧ c.inn.length ≤ 2097152 ∧ c.out.length ≤ 2097152) (hv : vimg len d bd = true) (hg : goodB d bd c = false) :
    Calls Tryz.prog 9 #[.agg #[.slice a len cap, .int .i64 d, .int .i64 bd], v] w fun e w' => ∃ u, e = .returned u ∧ CpuAt w' w.heap.size u zeroM ∧ Below w.heap.size w w' := by
  have hv0 := h
  obtain ⟨r, dv, sv, iv, ov, rfl, hr, hd, hs', hi, ho, hk, hLL, hnd⟩ := h
  have ho' := (Lis.of_own ho).1
  obtain ⟨x1, y1, rfl⟩ := hr.len0
  obtain ⟨x2, y2, rfl⟩ := hd.len0
  obtain ⟨x3, y3, rfl⟩ := hs'.len0
  obtain ⟨x4, y4, rfl⟩ := hi.len0
  obtain ⟨x5, y5, rfl⟩ := ho'.len0
  have B0 : Below w.heap.size w (((w.alloc (.cells #[.slice a len cap, .int .i64 d, .int .i64 bd] 34)).alloc (.cells #[.slice x1 c.regs.length y1, .int .u32 c.pc, .slice x2 c.data.length y2, .slice x3 c.stack.length y3, .slice x4 c.inn.length y4, .slice x5 c.out.length y5, .int .u32 c.low, .int .i64 c.st] 32)).alloc (.cells #[.slice none 0 0, .int .u32 0, .slice none 0 0, .slice none 0 0, .slice none 0 0, .slice none 0 0, .int .u32 0, .int .i64 0] 32)) := (((Below.refl _ _).alloc (Nat.le_refl _) _).alloc (by simp) _).alloc (by simp; omega) _
  have M0 : (((w.alloc (.cells #[.slice a len cap, .int .i64 d, .int .i64 bd] 34)).alloc (.cells #[.slice x1 c.regs.length y1, .int .u32 c.pc, .slice x2 c.data.length y2, .slice x3 c.stack.length y3, .slice x4 c.inn.length y4, .slice x5 c.out.length y5, .int .u32 c.low, .int .i64 c.st] 32)).alloc (.cells #[.slice none 0 0, .int .u32 0, .slice none 0 0, .slice none 0 0, .slice none 0 0, .slice none 0 0, .int .u32 0, .int .i64 0] 32)).heap[w.heap.size]? = some (.cells #[.slice a len cap, .int .i64 d, .int .i64 bd] 34) := by rw [Below.heap_alloc _ _ _ (by simp; omega), Below.heap_alloc _ _ _ (by simp)]; exact heap_alloc_new w _
  have C0 : Bx (((w.alloc (.cells #[.slice a len cap, .int .i64 d, .int .i64 bd] 34)).alloc (.cells #[.slice x1 c.regs.length y1, .int .u32 c.pc, .slice x2 c.data.length y2, .slice x3 c.stack.length y3, .slice x4 c.inn.length y4, .slice x5 c.out.length y5, .int .u32 c.low, .int .i64 c.st] 32)).alloc (.cells #[.slice none 0 0, .int .u32 0, .slice none 0 0, .slice none 0 0, .slice none 0 0, .slice none 0 0, .int .u32 0, .int .i64 0] 32)) (w.heap.size + 1) (.slice x1 c.regs.length y1) (.int .u32 c.pc) (.slice x2 c.data.length y2) (.slice x3 c.stack.length y3) (.slice x4 c.inn.length y4) (.slice x5 c.out.length y5) (.int .u32 c.low) (.int .i64 c.st) := Bx.of_heap (by rw [Below.heap_alloc _ _ _ (by simp)]; have := heap_alloc_new (w.alloc (.cells #[.slice a len cap, .int .i64 d, .int .i64 bd] 34)) (.cells #[.slice x1 c.regs.length y1, .int .u32 c.pc, .slice x2 c.data.length y2, .slice x3 c.stack.length y3, .slice x4 c.inn.length y4, .slice x5 c.out.length y5, .int .u32 c.low, .int .i64 c.st] 32); simpa only [World.size_alloc] using this)
  have R0 : Bx (((w.alloc (.cells #[.slice a len cap, .int .i64 d, .int .i64 bd] 34)).alloc (.cells #[.slice x1 c.regs.length y1, .int .u32 c.pc, .slice x2 c.data.length y2, .slice x3 c.stack.length y3, .slice x4 c.inn.length y4, .slice x5 c.out.length y5, .int .u32 c.low, .int .i64 c.st] 32)).alloc (.cells #[.slice none 0 0, .int .u32 0, .slice none 0 0, .slice none 0 0, .slice none 0 0, .slice none 0 0, .int .u32 0, .int .i64 0] 32)) (w.heap.size + 1 + 1) (.slice none 0 0) (.int .u32 0) (.slice none 0 0) (.slice none 0 0) (.slice none 0 0) (.slice none 0 0) (.int .u32 0) (.int .i64 0) := Bx.of_heap (by have := heap_alloc_new ((w.alloc (.cells #[.slice a len cap, .int .i64 d, .int .i64 bd] 34)).alloc (.cells #[.slice x1 c.regs.length y1, .int .u32 c.pc, .slice x2 c.data.length y2, .slice x3 c.stack.length y3, .slice x4 c.inn.length y4, .slice x5 c.out.length y5, .int .u32 c.low, .int .i64 c.st] 32)) (.cells #[.slice none 0 0, .int .u32 0, .slice none 0 0, .slice none 0 0, .slice none 0 0, .slice none 0 0, .int .u32 0, .int .i64 0] 32); simpa only [World.size_alloc] using this)
  obtain ⟨V0, hV0⟩ : ∃ V0, V0 = (((w.alloc (.cells #[.slice a len cap, .int .i64 d, .int .i64 bd] 34)).alloc (.cells #[.slice x1 c.regs.length y1, .int .u32 c.pc, .slice x2 c.data.length y2, .slice x3 c.stack.length y3, .slice x4 c.inn.length y4, .slice x5 c.out.length y5, .int .u32 c.low, .int .i64 c.st] 32)).alloc (.cells #[.slice none 0 0, .int .u32 0, .slice none 0 0, .slice none 0 0, .slice none 0 0, .slice none 0 0, .int .u32 0, .int .i64 0] 32)) := ⟨_, rfl⟩
  have z0 : V0.heap.size = w.heap.size + 3 := by rw [hV0]; simp
  rw [← hV0] at B0 M0 C0 R0
  have HV : Hid _ := And.intro hv0 hs
  have HB0 : Hid _ := And.intro B0 (And.intro M0 (And.intro C0 R0))
  clear hr hd hs' hi ho ho' hk hLL hnd hs B0 R0 hv0
  skip
  obtain ⟨c00, c01, c02, c03, c04, c05, c06, c07, c0f⟩ := id C0
  have m00 := cell_of M0 (j := 0) rfl
  have m01 := cell_of M0 (j := 1) rfl
  have m02 := cell_of M0 (j := 2) rfl
  clear M0 C0
  go_enter Tryz.func9, Tryz.ntmps9
  go_upto_region 1 with fail
  rw [← hV0]
  clear hV0
  go_wp2_with fail
  refine (vi_any a len cap d bd V0 hl).mono ?_
  rintro e w1 ⟨rfl, hb1⟩
  rw [hv]
  have s1 := hb1.size
  have B1 := HB0.out.1.trans (hb1.mono HB0.out.1.size)
  have M1 := (hb1.block w.heap.size (by omega)).trans HB0.out.2.1
  have C1 := HB0.out.2.2.1.below hb1
  have R1 := HB0.out.2.2.2.below hb1
  have HB1 : Hid _ := And.intro B1 (And.intro M1 (And.intro C1 R1))
  clear c00 c01 c02 c03 c04 c05 c06 c07 c0f m00 m01 m02 B1 R1 hb1
  obtain ⟨c00, c01, c02, c03, c04, c05, c06, c07, c0f⟩ := id C1
  have m00 := cell_of M1 (j := 0) rfl
  have m01 := cell_of M1 (j := 1) rfl
  have m02 := cell_of M1 (j := 2) rfl
  clear M1 C1
  go_wp2_with fail
  refine (vc_any a len cap d bd _ L c w1 (HV.out.1.below HB1.out.1) HV.out.2).mono ?_
  rintro e w2 ⟨rfl, hb2⟩
  rw [hg]
  have s2 := hb2.size
  have B2 := HB1.out.1.trans (hb2.mono HB1.out.1.size)
  have M2 := (hb2.block w.heap.size (by omega)).trans HB1.out.2.1
  have C2 := HB1.out.2.2.1.below hb2
  have R2 := HB1.out.2.2.2.below hb2
  have HB2 : Hid _ := And.intro B2 (And.intro M2 (And.intro C2 R2))
  clear c00 c01 c02 c03 c04 c05 c06 c07 c0f m00 m01 m02 B2 R2 hb2
  obtain ⟨c00, c01, c02, c03, c04, c05, c06, c07, c0f⟩ := id C2
  have m00 := cell_of M2 (j := 0) rfl
  have m01 := cell_of M2 (j := 1) rfl
  have m02 := cell_of M2 (j := 2) rfl
  clear M2 C2
  obtain ⟨z00, z01, z02, z03, z04, z05, z06, z07, z0f⟩ := id HB2.out.2.2.2
  go_wp2
  refine bodyPost_ret (v := .agg #[.slice none 0 0, .int .u32 0, .slice none 0 0, .slice none 0 0, .slice none 0 0, .slice none 0 0, .int .u32 0, .int .i64 0]) (by simp [results, Tryz.results9, go_sem, z00, z01, z02, z03, z04, z05, z06, z07]) rfl ?_
  exact ⟨_, rfl, cpu_zero _ _, ((Tcs.refl (fun k => k = w.heap.size + 1 + 1) _).set8 _ rfl (.slice none 0 0) (.int .u32 0) (.slice none 0 0) (.slice none 0 0) (.slice none 0 0) (.slice none 0 0) (.int .u32 0) (.int .i64 0)).below HB2.out.1 HB2.out.1.size (by rintro k rfl; omega)⟩


set_option maxRecDepth 8000 in
set_option maxHeartbeats 1000000 in
theorem sc_stay (a : Option Addr) (len cap : Nat) (d bd : Int) (v : Value) (L : List Nat) (c : Mc) (w : World) (hl : len ≤ 1048576) (h : CpuV w v L c) (hs : c.regs.length ≤ 2097152 ∧ c.data.length ≤ 2097152 ∧ c.stack.length ≤ 2097152 ∧ c.inn.length ≤ 2097152 ∧ c.out.length ≤ 2097152) (hv : vimg len d bd = true) (hg : goodB d bd c = true) (hst : ¬ c.st = 0) :
    Calls Tryz.prog 9 #[.agg #[.slice a len cap, .int .i64 d, .int .i64 bd], v] w fun e w' => ∃ u, e = .returned u ∧ CpuAt w' w.heap.size u c ∧ Below w.heap.size w w' := by
  have hv0 := h
  obtain ⟨r, dv, sv, iv, ov, rfl, hr, hd, hs', hi, ho, hk, hLL, hnd⟩ := h
  have ho' := (Lis.of_own ho).1
  obtain ⟨x1, y1, rfl⟩ := hr.len0
  obtain ⟨x2, y2, rfl⟩ := hd.len0
  obtain ⟨x3, y3, rfl⟩ := hs'.len0
  obtain ⟨x4, y4, rfl⟩ := hi.len0
  obtain ⟨x5, y5, rfl⟩ := ho'.len0
  have B0 : Below w.heap.size w (((w.alloc (.cells #[.slice a len cap, .int .i64 d, .int .i64 bd] 34)).alloc (.cells #[.slice x1 c.regs.length y1, .int .u32 c.pc, .slice x2 c.data.length y2, .slice x3 c.stack.length y3, .slice x4 c.inn.length y4, .slice x5 c.out.length y5, .int .u32 c.low, .int .i64 c.st] 32)).alloc (.cells #[.slice none 0 0, .int .u32 0, .slice none 0 0, .slice none 0 0, .slice none 0 0, .slice none 0 0, .int .u32 0, .int .i64 0] 32)) := (((Below.refl _ _).alloc (Nat.le_refl _) _).alloc (by simp) _).alloc (by simp; omega) _
  have M0 : (((w.alloc (.cells #[.slice a len cap, .int .i64 d, .int .i64 bd] 34)).alloc (.cells #[.slice x1 c.regs.length y1, .int .u32 c.pc, .slice x2 c.data.length y2, .slice x3 c.stack.length y3, .slice x4 c.inn.length y4, .slice x5 c.out.length y5, .int .u32 c.low, .int .i64 c.st] 32)).alloc (.cells #[.slice none 0 0, .int .u32 0, .slice none 0 0, .slice none 0 0, .slice none 0 0, .slice none 0 0, .int .u32 0, .int .i64 0] 32)).heap[w.heap.size]? = some (.cells #[.slice a len cap, .int .i64 d, .int .i64 bd] 34) := by rw [Below.heap_alloc _ _ _ (by simp; omega), Below.heap_alloc _ _ _ (by simp)]; exact heap_alloc_new w _
  have C0 : Bx (((w.alloc (.cells #[.slice a len cap, .int .i64 d, .int .i64 bd] 34)).alloc (.cells #[.slice x1 c.regs.length y1, .int .u32 c.pc, .slice x2 c.data.length y2, .slice x3 c.stack.length y3, .slice x4 c.inn.length y4, .slice x5 c.out.length y5, .int .u32 c.low, .int .i64 c.st] 32)).alloc (.cells #[.slice none 0 0, .int .u32 0, .slice none 0 0, .slice none 0 0, .slice none 0 0, .slice none 0 0, .int .u32 0, .int .i64 0] 32)) (w.heap.size + 1) (.slice x1 c.regs.length y1) (.int .u32 c.pc) (.slice x2 c.data.length y2) (.slice x3 c.stack.length y3) (.slice x4 c.inn.length y4) (.slice x5 c.out.length y5) (.int .u32 c.low) (.int .i64 c.st) := Bx.of_heap (by rw [Below.heap_alloc _ _ _ (by simp)]; have := heap_alloc_new (w.alloc (.cells #[.slice a len cap, .int .i64 d, .int .i64 bd] 34)) (.cells #[.slice x1 c.regs.length y1, .int .u32 c.pc, .slice x2 c.data.length y2, .slice x3 c.stack.length y3, .slice x4 c.inn.length y4, .slice x5 c.out.length y5, .int .u32 c.low, .int .i64 c.st] 32); simpa only [World.size_alloc] using this)
  have R0 : Bx (((w.alloc (.cells #[.slice a len cap, .int .i64 d, .int .i64 bd] 34)).alloc (.cells #[.slice x1 c.regs.length y1, .int .u32 c.pc, .slice x2 c.data.length y2, .slice x3 c.stack.length y3, .slice x4 c.inn.length y4, .slice x5 c.out.length y5, .int .u32 c.low, .int .i64 c.st] 32)).alloc (.cells #[.slice none 0 0, .int .u32 0, .slice none 0 0, .slice none 0 0, .slice none 0 0, .slice none 0 0, .int .u32 0, .int .i64 0] 32)) (w.heap.size + 1 + 1) (.slice none 0 0) (.int .u32 0) (.slice none 0 0) (.slice none 0 0) (.slice none 0 0) (.slice none 0 0) (.int .u32 0) (.int .i64 0) := Bx.of_heap (by have := heap_alloc_new ((w.alloc (.cells #[.slice a len cap, .int .i64 d, .int .i64 bd] 34)).alloc (.cells #[.slice x1 c.regs.length y1, .int .u32 c.pc, .slice x2 c.data.length y2, .slice x3 c.stack.length y3, .slice x4 c.inn.length y4, .slice x5 c.out.length y5, .int .u32 c.low, .int .i64 c.st] 32)) (.cells #[.slice none 0 0, .int .u32 0, .slice none 0 0, .slice none 0 0, .slice none 0 0, .slice none 0 0, .int .u32 0, .int .i64 0] 32); simpa only [World.size_alloc] using this)
  obtain ⟨V0, hV0⟩ : ∃ V0, V0 = (((w.alloc (.cells #[.slice a len cap, .int .i64 d, .int .i64 bd] 34)).alloc (.cells #[.slice x1 c.regs.length y1, .int .u32 c.pc, .slice x2 c.data.length y2, .slice x3 c.stack.length y3, .slice x4 c.inn.length y4, .slice x5 c.out.length y5, .int .u32 c.low, .int .i64 c.st] 32)).alloc (.cells #[.slice none 0 0, .int .u32 0, .slice none 0 0, .slice none 0 0, .slice none 0 0, .slice none 0 0, .int .u32 0, .int .i64 0] 32)) := ⟨_, rfl⟩
  have z0 : V0.heap.size = w.heap.size + 3 := by rw [hV0]; simp
  rw [← hV0] at B0 M0 C0 R0
  have HV : Hid _ := And.intro hv0 hs
  have HB0 : Hid _ := And.intro B0 (And.intro M0 (And.intro C0 R0))
  clear hr hd hs' hi ho ho' hk hLL hnd hs B0 R0 hv0
  have HST : Hid _ := hst
  clear hst
  obtain ⟨c00, c01, c02, c03, c04, c05, c06, c07, c0f⟩ := id C0
  have m00 := cell_of M0 (j := 0) rfl
  have m01 := cell_of M0 (j := 1) rfl
  have m02 := cell_of M0 (j := 2) rfl
  clear M0 C0
  go_enter Tryz.func9, Tryz.ntmps9
  go_upto_region 1 with fail
  rw [← hV0]
  clear hV0
  go_wp2_with fail
  refine (vi_any a len cap d bd V0 hl).mono ?_
  rintro e w1 ⟨rfl, hb1⟩
  rw [hv]
  have s1 := hb1.size
  have B1 := HB0.out.1.trans (hb1.mono HB0.out.1.size)
  have M1 := (hb1.block w.heap.size (by omega)).trans HB0.out.2.1
  have C1 := HB0.out.2.2.1.below hb1
  have R1 := HB0.out.2.2.2.below hb1
  have HB1 : Hid _ := And.intro B1 (And.intro M1 (And.intro C1 R1))
  clear c00 c01 c02 c03 c04 c05 c06 c07 c0f m00 m01 m02 B1 R1 hb1
  obtain ⟨c00, c01, c02, c03, c04, c05, c06, c07, c0f⟩ := id C1
  have m00 := cell_of M1 (j := 0) rfl
  have m01 := cell_of M1 (j := 1) rfl
  have m02 := cell_of M1 (j := 2) rfl
  clear M1 C1
  go_wp2_with fail
  refine (vc_any a len cap d bd _ L c w1 (HV.out.1.below HB1.out.1) HV.out.2).mono ?_
  rintro e w2 ⟨rfl, hb2⟩
  rw [hg]
  have s2 := hb2.size
  have B2 := HB1.out.1.trans (hb2.mono HB1.out.1.size)
  have M2 := (hb2.block w.heap.size (by omega)).trans HB1.out.2.1
  have C2 := HB1.out.2.2.1.below hb2
  have R2 := HB1.out.2.2.2.below hb2
  have HB2 : Hid _ := And.intro B2 (And.intro M2 (And.intro C2 R2))
  clear c00 c01 c02 c03 c04 c05 c06 c07 c0f m00 m01 m02 B2 R2 hb2
  obtain ⟨c00, c01, c02, c03, c04, c05, c06, c07, c0f⟩ := id C2
  have m00 := cell_of M2 (j := 0) rfl
  have m01 := cell_of M2 (j := 1) rfl
  have m02 := cell_of M2 (j := 2) rfl
  clear M2 C2
  go_wp2_with fail
  refine (cc_any _ L c w2 (HV.out.1.below HB2.out.1) HV.out.2).mono ?_
  rintro e w3 ⟨u3, rfl, ca, hb3⟩
  obtain ⟨L3, cv3, hL3⟩ := ca.toV2
  obtain ⟨k1, k2, k3, k4, k5, p1, q1, p2, q2, p3, q3, p4, q4, p5, q5, rfl⟩ := cv3.shape
  have s3 := hb3.size
  have B3 := HB2.out.1.trans (hb3.mono HB2.out.1.size)
  have M3 := (hb3.block w.heap.size (by omega)).trans HB2.out.2.1
  have R3 := HB2.out.2.2.2.below hb3
  have HB3 : Hid _ := And.intro B3 (And.intro M3 (And.intro R3 (And.intro cv3 (And.intro hL3 cv3.lt))))
  clear c00 c01 c02 c03 c04 c05 c06 c07 c0f m00 m01 m02 B3 M3 R3 hb3 ca cv3 hL3
  go_upto_region 4 with fail
  obtain ⟨V4, hV4⟩ : ∃ V4, V4 = w3.alloc (.cells #[.slice p1 k1 q1, .int .u32 c.pc, .slice p2 k2 q2, .slice p3 k3 q3, .slice p4 k4 q4, .slice p5 k5 q5, .int .u32 c.low, .int .i64 c.st] 32) := ⟨_, rfl⟩
  rw [← hV4]
  have X4 : Bx V4 w3.heap.size (.slice p1 k1 q1) (.int .u32 c.pc) (.slice p2 k2 q2) (.slice p3 k3 q3) (.slice p4 k4 q4) (.slice p5 k5 q5) (.int .u32 c.low) (.int .i64 c.st) := by rw [hV4]; exact Bx.of_heap (heap_alloc_new w3 _)
  have A4 : Below w3.heap.size w3 V4 := by rw [hV4]; exact (Below.refl _ _).alloc (Nat.le_refl _) _
  have zV4 : V4.heap.size = w3.heap.size + 1 := by rw [hV4]; simp
  have R4 := HB3.out.2.2.1.below A4
  have M4 := (A4.block w.heap.size (by omega)).trans HB3.out.2.1
  have cv4 := HB3.out.2.2.2.1.below A4
  have B4 := HB3.out.1.trans (A4.mono (by omega))
  have HB4 : Hid _ := And.intro B4 (And.intro M4 (And.intro R4 (And.intro cv4 X4)))
  obtain ⟨c00, c01, c02, c03, c04, c05, c06, c07, c0f⟩ := id X4
  obtain ⟨z00, z01, z02, z03, z04, z05, z06, z07, z0f⟩ := id R4
  have m00 := cell_of M4 (j := 0) rfl
  have m01 := cell_of M4 (j := 1) rfl
  have m02 := cell_of M4 (j := 2) rfl
  clear hV4 X4 A4 R4 M4 cv4 B4
  have hst' : (c.st == 0) = false := by simpa using HST.out
  go_wp2
  refine bodyPost_ret (v := .agg #[.slice p1 k1 q1, .int .u32 c.pc, .slice p2 k2 q2, .slice p3 k3 q3, .slice p4 k4 q4, .slice p5 k5 q5, .int .u32 c.low, .int .i64 c.st]) (by simp [results, Tryz.results9, go_sem, z00, z01, z02, z03, z04, z05, z06, z07]) rfl ?_
  have TR := (Tcs.refl (fun k => k = w.heap.size + 1 + 1) V4).set8 _ rfl (.slice p1 k1 q1) (.int .u32 c.pc) (.slice p2 k2 q2) (.slice p3 k3 q3) (.slice p4 k4 q4) (.slice p5 k5 q5) (.int .u32 c.low) (.int .i64 c.st)
  exact ⟨_, rfl, (HB4.out.2.2.2.1.tcs TR (fun g hg e => by have := HB3.out.2.2.2.2.1 g hg; omega)).toAt2 (fun g hg => by have := HB3.out.2.2.2.2.1 g hg; omega), TR.below HB4.out.1 HB4.out.1.size (by rintro k rfl; omega)⟩


set_option maxRecDepth 8000 in
set_option maxHeartbeats 1000000 in
theorem sc_step0 (a : Option Addr) (len cap : Nat) (d bd : Int) (v : Value) (L : List Nat) (c : Mc) (w : World) (hl : len ≤ 1048576) (h : CpuV w v L c) (hs : c.regs.length ≤ 2097152 ∧ c.data.length ≤ 2097152 ∧ c.stack.length ≤ 2097152 ∧ c.inn.length ≤ 2097152 ∧ c.out.length ≤ 2097152) (hv : vimg len d bd = true) (hg : goodB d bd c = true) (hst : c.st = 0) (codes : List Int) (hc : Lis .u32 w (.slice a len cap) codes) (nx : Mc) (hS : StepIs codes bd c nx) (hco : CodesOk codes) (hpc : 0 ≤ c.pc ∧ c.pc ≤ 4294967295) (hw : ¬ (4096 ≤ c.pc ∧ (c.pc - 4096) % 4 = 0 ∧ (c.pc - 4096) / 4 < (len : Int))) :
    Calls Tryz.prog 9 #[.agg #[.slice a len cap, .int .i64 d, .int .i64 bd], v] w fun e w' => ∃ u, e = .returned u ∧ CpuAt w' w.heap.size u nx ∧ Below w.heap.size w w' := by
  have hv0 := h
  obtain ⟨r, dv, sv, iv, ov, rfl, hr, hd, hs', hi, ho, hk, hLL, hnd⟩ := h
  have ho' := (Lis.of_own ho).1
  obtain ⟨x1, y1, rfl⟩ := hr.len0
  obtain ⟨x2, y2, rfl⟩ := hd.len0
  obtain ⟨x3, y3, rfl⟩ := hs'.len0
  obtain ⟨x4, y4, rfl⟩ := hi.len0
  obtain ⟨x5, y5, rfl⟩ := ho'.len0
  have B0 : Below w.heap.size w (((w.alloc (.cells #[.slice a len cap, .int .i64 d, .int .i64 bd] 34)).alloc (.cells #[.slice x1 c.regs.length y1, .int .u32 c.pc, .slice x2 c.data.length y2, .slice x3 c.stack.length y3, .slice x4 c.inn.length y4, .slice x5 c.out.length y5, .int .u32 c.low, .int .i64 c.st] 32)).alloc (.cells #[.slice none 0 0, .int .u32 0, .slice none 0 0, .slice none 0 0, .slice none 0 0, .slice none 0 0, .int .u32 0, .int .i64 0] 32)) := (((Below.refl _ _).alloc (Nat.le_refl _) _).alloc (by simp) _).alloc (by simp; omega) _
  have M0 : (((w.alloc (.cells #[.slice a len cap, .int .i64 d, .int .i64 bd] 34)).alloc (.cells #[.slice x1 c.regs.length y1, .int .u32 c.pc, .slice x2 c.data.length y2, .slice x3 c.stack.length y3, .slice x4 c.inn.length y4, .slice x5 c.out.length y5, .int .u32 c.low, .int .i64 c.st] 32)).alloc (.cells #[.slice none 0 0, .int .u32 0, .slice none 0 0, .slice none 0 0, .slice none 0 0, .slice none 0 0, .int .u32 0, .int .i64 0] 32)).heap[w.heap.size]? = some (.cells #[.slice a len cap, .int .i64 d, .int .i64 bd] 34) := by rw [Below.heap_alloc _ _ _ (by simp; omega), Below.heap_alloc _ _ _ (by simp)]; exact heap_alloc_new w _
  have C0 : Bx (((w.alloc (.cells #[.slice a len cap, .int .i64 d, .int .i64 bd] 34)).alloc (.cells #[.slice x1 c.regs.length y1, .int .u32 c.pc, .slice x2 c.data.length y2, .slice x3 c.stack.length y3, .slice x4 c.inn.length y4, .slice x5 c.out.length y5, .int .u32 c.low, .int .i64 c.st] 32)).alloc (.cells #[.slice none 0 0, .int .u32 0, .slice none 0 0, .slice none 0 0, .slice none 0 0, .slice none 0 0, .int .u32 0, .int .i64 0] 32)) (w.heap.size + 1) (.slice x1 c.regs.length y1) (.int .u32 c.pc) (.slice x2 c.data.length y2) (.slice x3 c.stack.length y3) (.slice x4 c.inn.length y4) (.slice x5 c.out.length y5) (.int .u32 c.low) (.int .i64 c.st) := Bx.of_heap (by rw [Below.heap_alloc _ _ _ (by simp)]; have := heap_alloc_new (w.alloc (.cells #[.slice a len cap, .int .i64 d, .int .i64 bd] 34)) (.cells #[.slice x1 c.regs.length y1, .int .u32 c.pc, .slice x2 c.data.length y2, .slice x3 c.stack.length y3, .slice x4 c.inn.length y4, .slice x5 c.out.length y5, .int .u32 c.low, .int .i64 c.st] 32); simpa only [World.size_alloc] using this)
  have R0 : Bx (((w.alloc (.cells #[.slice a len cap, .int .i64 d, .int .i64 bd] 34)).alloc (.cells #[.slice x1 c.regs.length y1, .int .u32 c.pc, .slice x2 c.data.length y2, .slice x3 c.stack.length y3, .slice x4 c.inn.length y4, .slice x5 c.out.length y5, .int .u32 c.low, .int .i64 c.st] 32)).alloc (.cells #[.slice none 0 0, .int .u32 0, .slice none 0 0, .slice none 0 0, .slice none 0 0, .slice none 0 0, .int .u32 0, .int .i64 0] 32)) (w.heap.size + 1 + 1) (.slice none 0 0) (.int .u32 0) (.slice none 0 0) (.slice none 0 0) (.slice none 0 0) (.slice none 0 0) (.int .u32 0) (.int .i64 0) := Bx.of_heap (by have := heap_alloc_new ((w.alloc (.cells #[.slice a len cap, .int .i64 d, .int .i64 bd] 34)).alloc (.cells #[.slice x1 c.regs.length y1, .int .u32 c.pc, .slice x2 c.data.length y2, .slice x3 c.stack.length y3, .slice x4 c.inn.length y4, .slice x5 c.out.length y5, .int .u32 c.low, .int .i64 c.st] 32)) (.cells #[.slice none 0 0, .int .u32 0, .slice none 0 0, .slice none 0 0, .slice none 0 0, .slice none 0 0, .int .u32 0, .int .i64 0] 32); simpa only [World.size_alloc] using this)
  obtain ⟨V0, hV0⟩ : ∃ V0, V0 = (((w.alloc (.cells #[.slice a len cap, .int .i64 d, .int .i64 bd] 34)).alloc (.cells #[.slice x1 c.regs.length y1, .int .u32 c.pc, .slice x2 c.data.length y2, .slice x3 c.stack.length y3, .slice x4 c.inn.length y4, .slice x5 c.out.length y5, .int .u32 c.low, .int .i64 c.st] 32)).alloc (.cells #[.slice none 0 0, .int .u32 0, .slice none 0 0, .slice none 0 0, .slice none 0 0, .slice none 0 0, .int .u32 0, .int .i64 0] 32)) := ⟨_, rfl⟩
  have z0 : V0.heap.size = w.heap.size + 3 := by rw [hV0]; simp
  rw [← hV0] at B0 M0 C0 R0
  have HV : Hid _ := And.intro hv0 hs
  have HB0 : Hid _ := And.intro B0 (And.intro M0 (And.intro C0 R0))
  clear hr hd hs' hi ho ho' hk hLL hnd hs B0 R0 hv0
  have HST : Hid _ := hst
  have HSS : Hid _ := hS.1
  have HCO : Hid _ := And.intro hc (And.intro hco hpc)
  have hlI : (len : Int) ≤ 20000 := by have := hco.1; have := lis_len hc; omega
  clear hst hS hc hco hpc
  have HW0 : Hid _ := hw
  clear hw
  obtain ⟨c00, c01, c02, c03, c04, c05, c06, c07, c0f⟩ := id C0
  have m00 := cell_of M0 (j := 0) rfl
  have m01 := cell_of M0 (j := 1) rfl
  have m02 := cell_of M0 (j := 2) rfl
  clear M0 C0
  go_enter Tryz.func9, Tryz.ntmps9
  go_upto_region 1 with fail
  rw [← hV0]
  clear hV0
  go_wp2_with fail
  refine (vi_any a len cap d bd V0 hl).mono ?_
  rintro e w1 ⟨rfl, hb1⟩
  rw [hv]
  have s1 := hb1.size
  have B1 := HB0.out.1.trans (hb1.mono HB0.out.1.size)
  have M1 := (hb1.block w.heap.size (by omega)).trans HB0.out.2.1
  have C1 := HB0.out.2.2.1.below hb1
  have R1 := HB0.out.2.2.2.below hb1
  have HB1 : Hid _ := And.intro B1 (And.intro M1 (And.intro C1 R1))
  clear c00 c01 c02 c03 c04 c05 c06 c07 c0f m00 m01 m02 B1 R1 hb1
  obtain ⟨c00, c01, c02, c03, c04, c05, c06, c07, c0f⟩ := id C1
  have m00 := cell_of M1 (j := 0) rfl
  have m01 := cell_of M1 (j := 1) rfl
  have m02 := cell_of M1 (j := 2) rfl
  clear M1 C1
  go_wp2_with fail
  refine (vc_any a len cap d bd _ L c w1 (HV.out.1.below HB1.out.1) HV.out.2).mono ?_
  rintro e w2 ⟨rfl, hb2⟩
  rw [hg]
  have s2 := hb2.size
  have B2 := HB1.out.1.trans (hb2.mono HB1.out.1.size)
  have M2 := (hb2.block w.heap.size (by omega)).trans HB1.out.2.1
  have C2 := HB1.out.2.2.1.below hb2
  have R2 := HB1.out.2.2.2.below hb2
  have HB2 : Hid _ := And.intro B2 (And.intro M2 (And.intro C2 R2))
  clear c00 c01 c02 c03 c04 c05 c06 c07 c0f m00 m01 m02 B2 R2 hb2
  obtain ⟨c00, c01, c02, c03, c04, c05, c06, c07, c0f⟩ := id C2
  have m00 := cell_of M2 (j := 0) rfl
  have m01 := cell_of M2 (j := 1) rfl
  have m02 := cell_of M2 (j := 2) rfl
  clear M2 C2
  go_wp2_with fail
  refine (cc_any _ L c w2 (HV.out.1.below HB2.out.1) HV.out.2).mono ?_
  rintro e w3 ⟨u3, rfl, ca, hb3⟩
  obtain ⟨L3, cv3, hL3⟩ := ca.toV2
  obtain ⟨k1, k2, k3, k4, k5, p1, q1, p2, q2, p3, q3, p4, q4, p5, q5, rfl⟩ := cv3.shape
  have s3 := hb3.size
  have B3 := HB2.out.1.trans (hb3.mono HB2.out.1.size)
  have M3 := (hb3.block w.heap.size (by omega)).trans HB2.out.2.1
  have R3 := HB2.out.2.2.2.below hb3
  have HB3 : Hid _ := And.intro B3 (And.intro M3 (And.intro R3 (And.intro cv3 (And.intro hL3 cv3.lt))))
  clear c00 c01 c02 c03 c04 c05 c06 c07 c0f m00 m01 m02 B3 M3 R3 hb3 ca cv3 hL3
  go_upto_region 4 with fail
  obtain ⟨V4, hV4⟩ : ∃ V4, V4 = w3.alloc (.cells #[.slice p1 k1 q1, .int .u32 c.pc, .slice p2 k2 q2, .slice p3 k3 q3, .slice p4 k4 q4, .slice p5 k5 q5, .int .u32 c.low, .int .i64 c.st] 32) := ⟨_, rfl⟩
  rw [← hV4]
  have X4 : Bx V4 w3.heap.size (.slice p1 k1 q1) (.int .u32 c.pc) (.slice p2 k2 q2) (.slice p3 k3 q3) (.slice p4 k4 q4) (.slice p5 k5 q5) (.int .u32 c.low) (.int .i64 c.st) := by rw [hV4]; exact Bx.of_heap (heap_alloc_new w3 _)
  have A4 : Below w3.heap.size w3 V4 := by rw [hV4]; exact (Below.refl _ _).alloc (Nat.le_refl _) _
  have zV4 : V4.heap.size = w3.heap.size + 1 := by rw [hV4]; simp
  have R4 := HB3.out.2.2.1.below A4
  have M4 := (A4.block w.heap.size (by omega)).trans HB3.out.2.1
  have cv4 := HB3.out.2.2.2.1.below A4
  have B4 := HB3.out.1.trans (A4.mono (by omega))
  have HB4 : Hid _ := And.intro B4 (And.intro M4 (And.intro R4 (And.intro cv4 X4)))
  obtain ⟨c00, c01, c02, c03, c04, c05, c06, c07, c0f⟩ := id X4
  obtain ⟨z00, z01, z02, z03, z04, z05, z06, z07, z0f⟩ := id R4
  have m00 := cell_of M4 (j := 0) rfl
  have m01 := cell_of M4 (j := 1) rfl
  have m02 := cell_of M4 (j := 2) rfl
  clear hV4 X4 A4 R4 M4 cv4 B4
  have hst' : (c.st == 0) = true := by rw [HST.out]; rfl
  go_upto_region 6 with fail
  obtain ⟨V5, hV5⟩ : ∃ V5, V5 = V4.alloc (.cells #[.bool false, .int .i64 0, .int .i64 0, .int .i64 0, .int .i64 0, .int .i64 0] 54) := ⟨_, rfl⟩
  rw [← hV5]
  have X5 : V5.heap[w3.heap.size + 1]? = some (.cells #[.bool false, .int .i64 0, .int .i64 0, .int .i64 0, .int .i64 0, .int .i64 0] 54) := by rw [hV5, ← zV4]; exact heap_alloc_new V4 _
  have A5 : Below V4.heap.size V4 V5 := by rw [hV5]; exact (Below.refl _ _).alloc (Nat.le_refl _) _
  have zV5 : V5.heap.size = V4.heap.size + 1 := by rw [hV5]; simp
  have N5 := HB4.out.2.2.2.2.below A5
  have R5 := HB4.out.2.2.1.below A5
  have M5 := (A5.block w.heap.size (by omega)).trans HB4.out.2.1
  have cv5 := HB4.out.2.2.2.1.below A5
  have B5 := HB4.out.1.trans (A5.mono (by omega))
  have HB5 : Hid _ := And.intro B5 (And.intro M5 (And.intro R5 (And.intro cv5 (And.intro N5 X5))))
  clear c00 c01 c02 c03 c04 c05 c06 c07 c0f z00 z01 z02 z03 z04 z05 z06 z07 z0f m00 m01 m02
  obtain ⟨c00, c01, c02, c03, c04, c05, c06, c07, c0f⟩ := id N5
  have m00 := cell_of M5 (j := 0) rfl
  have m01 := cell_of M5 (j := 1) rfl
  have m02 := cell_of M5 (j := 2) rfl
  clear hV5 X5 A5 N5 R5 M5 cv5 B5
  go_wp2_with fail
  refine (wi_no a len cap d bd c.pc V5 hlI HCO.out.2.2 HW0.out).mono ?_
  rintro e w6 ⟨i6, rfl, hb6⟩
  have s6 := hb6.size
  have N6 := HB5.out.2.2.2.2.1.below hb6
  have X6 := (hb6.block (w3.heap.size + 1) (by omega)).trans HB5.out.2.2.2.2.2
  have HB6 : Hid _ := And.intro (HB5.out.1.trans (hb6.mono HB5.out.1.size)) (And.intro True.intro (And.intro (HB5.out.2.2.1.below hb6) (And.intro (HB5.out.2.2.2.1.below hb6) N6)))
  clear c00 c01 c02 c03 c04 c05 c06 c07 c0f m00 m01 m02
  obtain ⟨c00, c01, c02, c03, c04, c05, c06, c07, c0f⟩ := id N6
  have x0 := cell_of X6 (j := 0) rfl
  have xx1 := cell_of X6 (j := 1) rfl
  have xx2 := cell_of X6 (j := 2) rfl
  have xx3 := cell_of X6 (j := 3) rfl
  have xx4 := cell_of X6 (j := 4) rfl
  have xx5 := cell_of X6 (j := 5) rfl
  clear N6 X6 hb6
  dsimp only
  go_wp2_with fail
  have hfe : fetchM codes c.pc = Dec.no := by
    unfold fetchM wordAt
    rw [if_neg (by rw [← lis_len HCO.out.1]; exact HW0.out)]
  have hcall := HSS.out w3.heap.size (w3.heap.size :: L3) w6 (CpuV.toIn2 HB6.out.2.2.2.2 HB6.out.2.2.2.1 (fun e => by have := HB3.out.2.2.2.2.2 _ e; omega))
  rw [hfe] at hcall
  refine hcall.mono ?_
  clear hcall hfe
  rintro e w9 ⟨rfl, L9, hin9, hm9, ht9⟩
  obtain ⟨r9, d9, s9, i9, o9, hbx9, L10, rfl, cv9, j1, j2, j3, j4, j5, a1, b1, a2, b2, a3, b3, a4, b4, a5, b5, rfl, rfl, rfl, rfl, rfl⟩ := hin9.value
  have hL3 := HB3.out.2.2.2.2
  have hmem : ∀ k, k ∈ w3.heap.size :: L3 → w.heap.size + 3 ≤ k := fun k hk => by
    rw [List.mem_cons] at hk
    rcases hk with rfl | hk
    · omega
    · have := hL3.1 k hk; omega
  have s9' := ht9.size
  have R9 := HB6.out.2.2.1.keep (ht9.block (w.heap.size + 1 + 1) HB6.out.2.2.1.lt (fun e => by have := hmem _ e; omega))
  have B9 : Below w.heap.size w w9 := ht9.below HB6.out.1 HB6.out.1.size (fun k hk => by have := hmem k hk; omega)
  obtain ⟨c90, c91, c92, c93, c94, c95, c96, c97, c9f⟩ := id hbx9
  obtain ⟨z90, z91, z92, z93, z94, z95, z96, z97, z9f⟩ := id R9
  have H9 : Hid _ := And.intro cv9 (And.intro hm9 (And.intro hmem B9))
  clear hin9 hbx9 cv9 hm9 ht9 R9 B9 hmem hL3
  go_wp2
  refine bodyPost_ret (v := .agg #[.slice a1 j1 b1, .int .u32 nx.pc, .slice a2 j2 b2, .slice a3 j3 b3, .slice a4 j4 b4, .slice a5 j5 b5, .int .u32 nx.low, .int .i64 nx.st]) (by simp [results, Tryz.results9, go_sem, z90, z91, z92, z93, z94, z95, z96, z97]) rfl ?_
  obtain ⟨cv9, hm9, hmem, B9⟩ := H9.out
  have TR := (Tcs.refl (fun k => k = w.heap.size + 1 + 1) w9).set8 _ rfl (.slice a1 j1 b1) (.int .u32 nx.pc) (.slice a2 j2 b2) (.slice a3 j3 b3) (.slice a4 j4 b4) (.slice a5 j5 b5) (.int .u32 nx.low) (.int .i64 nx.st)
  have zW := HB6.out.1.size
  have hge : ∀ g ∈ L10, w.heap.size + 3 ≤ g := fun g hg => by
    rcases hm9 g (List.mem_cons_of_mem _ hg) with h | h
    · exact hmem g h
    · omega
  exact ⟨_, rfl, (cv9.tcs TR (fun g hg e => by have := hge g hg; omega)).toAt2 (fun g hg => by have := hge g hg; omega), TR.below B9 B9.size (by rintro k rfl; omega)⟩


set_option maxRecDepth 8000 in
set_option maxHeartbeats 1000000 in
theorem sc_step1 (a : Option Addr) (len cap : Nat) (d bd : Int) (v : Value) (L : List Nat) (c : Mc) (w : World) (hl : len ≤ 1048576) (h : CpuV w v L c) (hs : c.regs.length ≤ 2097152 ∧ c.data.length ≤ 2097152 ∧ c.stack.length ≤ 2097152 ∧ c.inn.length ≤ 2097152 ∧ c.out.length ≤ 2097152) (hv : vimg len d bd = true) (hg : goodB d bd c = true) (hst : c.st = 0) (codes : List Int) (hc : Lis .u32 w (.slice a len cap) codes) (nx : Mc) (hS : StepIs codes bd c nx) (hco : CodesOk codes) (hpc : 0 ≤ c.pc ∧ c.pc ≤ 4294967295) (n : Nat) (hn : n < len) (hp : c.pc = 4096 + 4 * (n : Int)) :
    Calls Tryz.prog 9 #[.agg #[.slice a len cap, .int .i64 d, .int .i64 bd], v] w fun e w' => ∃ u, e = .returned u ∧ CpuAt w' w.heap.size u nx ∧ Below w.heap.size w w' := by
  have hv0 := h
  obtain ⟨r, dv, sv, iv, ov, rfl, hr, hd, hs', hi, ho, hk, hLL, hnd⟩ := h
  have ho' := (Lis.of_own ho).1
  obtain ⟨x1, y1, rfl⟩ := hr.len0
  obtain ⟨x2, y2, rfl⟩ := hd.len0
  obtain ⟨x3, y3, rfl⟩ := hs'.len0
  obtain ⟨x4, y4, rfl⟩ := hi.len0
  obtain ⟨x5, y5, rfl⟩ := ho'.len0
  have B0 : Below w.heap.size w (((w.alloc (.cells #[.slice a len cap, .int .i64 d, .int .i64 bd] 34)).alloc (.cells #[.slice x1 c.regs.length y1, .int .u32 c.pc, .slice x2 c.data.length y2, .slice x3 c.stack.length y3, .slice x4 c.inn.length y4, .slice x5 c.out.length y5, .int .u32 c.low, .int .i64 c.st] 32)).alloc (.cells #[.slice none 0 0, .int .u32 0, .slice none 0 0, .slice none 0 0, .slice none 0 0, .slice none 0 0, .int .u32 0, .int .i64 0] 32)) := (((Below.refl _ _).alloc (Nat.le_refl _) _).alloc (by simp) _).alloc (by simp; omega) _
  have M0 : (((w.alloc (.cells #[.slice a len cap, .int .i64 d, .int .i64 bd] 34)).alloc (.cells #[.slice x1 c.regs.length y1, .int .u32 c.pc, .slice x2 c.data.length y2, .slice x3 c.stack.length y3, .slice x4 c.inn.length y4, .slice x5 c.out.length y5, .int .u32 c.low, .int .i64 c.st] 32)).alloc (.cells #[.slice none 0 0, .int .u32 0, .slice none 0 0, .slice none 0 0, .slice none 0 0, .slice none 0 0, .int .u32 0, .int .i64 0] 32)).heap[w.heap.size]? = some (.cells #[.slice a len cap, .int .i64 d, .int .i64 bd] 34) := by rw [Below.heap_alloc _ _ _ (by simp; omega), Below.heap_alloc _ _ _ (by simp)]; exact heap_alloc_new w _
  have C0 : Bx (((w.alloc (.cells #[.slice a len cap, .int .i64 d, .int .i64 bd] 34)).alloc (.cells #[.slice x1 c.regs.length y1, .int .u32 c.pc, .slice x2 c.data.length y2, .slice x3 c.stack.length y3, .slice x4 c.inn.length y4, .slice x5 c.out.length y5, .int .u32 c.low, .int .i64 c.st] 32)).alloc (.cells #[.slice none 0 0, .int .u32 0, .slice none 0 0, .slice none 0 0, .slice none 0 0, .slice none 0 0, .int .u32 0, .int .i64 0] 32)) (w.heap.size + 1) (.slice x1 c.regs.length y1) (.int .u32 c.pc) (.slice x2 c.data.length y2) (.slice x3 c.stack.length y3) (.slice x4 c.inn.length y4) (.slice x5 c.out.length y5) (.int .u32 c.low) (.int .i64 c.st) := Bx.of_heap (by rw [Below.heap_alloc _ _ _ (by simp)]; have := heap_alloc_new (w.alloc (.cells #[.slice a len cap, .int .i64 d, .int .i64 bd] 34)) (.cells #[.slice x1 c.regs.length y1, .int .u32 c.pc, .slice x2 c.data.length y2, .slice x3 c.stack.length y3, .slice x4 c.inn.length y4, .slice x5 c.out.length y5, .int .u32 c.low, .int .i64 c.st] 32); simpa only [World.size_alloc] using this)
  have R0 : Bx (((w.alloc (.cells #[.slice a len cap, .int .i64 d, .int .i64 bd] 34)).alloc (.cells #[.slice x1 c.regs.length y1, .int .u32 c.pc, .slice x2 c.data.length y2, .slice x3 c.stack.length y3, .slice x4 c.inn.length y4, .slice x5 c.out.length y5, .int .u32 c.low, .int .i64 c.st] 32)).alloc (.cells #[.slice none 0 0, .int .u32 0, .slice none 0 0, .slice none 0 0, .slice none 0 0, .slice none 0 0, .int .u32 0, .int .i64 0] 32)) (w.heap.size + 1 + 1) (.slice none 0 0) (.int .u32 0) (.slice none 0 0) (.slice none 0 0) (.slice none 0 0) (.slice none 0 0) (.int .u32 0) (.int .i64 0) := Bx.of_heap (by have := heap_alloc_new ((w.alloc (.cells #[.slice a len cap, .int .i64 d, .int .i64 bd] 34)).alloc (.cells #[.slice x1 c.regs.length y1, .int .u32 c.pc, .slice x2 c.data.length y2, .slice x3 c.stack.length y3, .slice x4 c.inn.length y4, .slice x5 c.out.length y5, .int .u32 c.low, .int .i64 c.st] 32)) (.cells #[.slice none 0 0, .int .u32 0, .slice none 0 0, .slice none 0 0, .slice none 0 0, .slice none 0 0, .int .u32 0, .int .i64 0] 32); simpa only [World.size_alloc] using this)
  obtain ⟨V0, hV0⟩ : ∃ V0, V0 = (((w.alloc (.cells #[.slice a len cap, .int .i64 d, .int .i64 bd] 34)).alloc (.cells #[.slice x1 c.regs.length y1, .int .u32 c.pc, .slice x2 c.data.length y2, .slice x3 c.stack.length y3, .slice x4 c.inn.length y4, .slice x5 c.out.length y5, .int .u32 c.low, .int .i64 c.st] 32)).alloc (.cells #[.slice none 0 0, .int .u32 0, .slice none 0 0, .slice none 0 0, .slice none 0 0, .slice none 0 0, .int .u32 0, .int .i64 0] 32)) := ⟨_, rfl⟩
  have z0 : V0.heap.size = w.heap.size + 3 := by rw [hV0]; simp
  rw [← hV0] at B0 M0 C0 R0
  have HV : Hid _ := And.intro hv0 hs
  have HB0 : Hid _ := And.intro B0 (And.intro M0 (And.intro C0 R0))
  clear hr hd hs' hi ho ho' hk hLL hnd hs B0 R0 hv0
  have HST : Hid _ := hst
  have HSS : Hid _ := hS.1
  have HCO : Hid _ := And.intro hc (And.intro hco hpc)
  have hlI : (len : Int) ≤ 20000 := by have := hco.1; have := lis_len hc; omega
  clear hst hS hc hco hpc
  have HN0 : Hid _ := And.intro hn hp
  have hnI : (n : Int) < (len : Int) := by omega
  have hnI0 : (0 : Int) ≤ (n : Int) := by omega
  clear hn hp
  obtain ⟨c00, c01, c02, c03, c04, c05, c06, c07, c0f⟩ := id C0
  have m00 := cell_of M0 (j := 0) rfl
  have m01 := cell_of M0 (j := 1) rfl
  have m02 := cell_of M0 (j := 2) rfl
  clear M0 C0
  go_enter Tryz.func9, Tryz.ntmps9
  go_upto_region 1 with fail
  rw [← hV0]
  clear hV0
  go_wp2_with fail
  refine (vi_any a len cap d bd V0 hl).mono ?_
  rintro e w1 ⟨rfl, hb1⟩
  rw [hv]
  have s1 := hb1.size
  have B1 := HB0.out.1.trans (hb1.mono HB0.out.1.size)
  have M1 := (hb1.block w.heap.size (by omega)).trans HB0.out.2.1
  have C1 := HB0.out.2.2.1.below hb1
  have R1 := HB0.out.2.2.2.below hb1
  have HB1 : Hid _ := And.intro B1 (And.intro M1 (And.intro C1 R1))
  clear c00 c01 c02 c03 c04 c05 c06 c07 c0f m00 m01 m02 B1 R1 hb1
  obtain ⟨c00, c01, c02, c03, c04, c05, c06, c07, c0f⟩ := id C1
  have m00 := cell_of M1 (j := 0) rfl
  have m01 := cell_of M1 (j := 1) rfl
  have m02 := cell_of M1 (j := 2) rfl
  clear M1 C1
  go_wp2_with fail
  refine (vc_any a len cap d bd _ L c w1 (HV.out.1.below HB1.out.1) HV.out.2).mono ?_
  rintro e w2 ⟨rfl, hb2⟩
  rw [hg]
  have s2 := hb2.size
  have B2 := HB1.out.1.trans (hb2.mono HB1.out.1.size)
  have M2 := (hb2.block w.heap.size (by omega)).trans HB1.out.2.1
  have C2 := HB1.out.2.2.1.below hb2
  have R2 := HB1.out.2.2.2.below hb2
  have HB2 : Hid _ := And.intro B2 (And.intro M2 (And.intro C2 R2))
  clear c00 c01 c02 c03 c04 c05 c06 c07 c0f m00 m01 m02 B2 R2 hb2
  obtain ⟨c00, c01, c02, c03, c04, c05, c06, c07, c0f⟩ := id C2
  have m00 := cell_of M2 (j := 0) rfl
  have m01 := cell_of M2 (j := 1) rfl
  have m02 := cell_of M2 (j := 2) rfl
  clear M2 C2
  go_wp2_with fail
  refine (cc_any _ L c w2 (HV.out.1.below HB2.out.1) HV.out.2).mono ?_
  rintro e w3 ⟨u3, rfl, ca, hb3⟩
  obtain ⟨L3, cv3, hL3⟩ := ca.toV2
  obtain ⟨k1, k2, k3, k4, k5, p1, q1, p2, q2, p3, q3, p4, q4, p5, q5, rfl⟩ := cv3.shape
  have s3 := hb3.size
  have B3 := HB2.out.1.trans (hb3.mono HB2.out.1.size)
  have M3 := (hb3.block w.heap.size (by omega)).trans HB2.out.2.1
  have R3 := HB2.out.2.2.2.below hb3
  have HB3 : Hid _ := And.intro B3 (And.intro M3 (And.intro R3 (And.intro cv3 (And.intro hL3 cv3.lt))))
  clear c00 c01 c02 c03 c04 c05 c06 c07 c0f m00 m01 m02 B3 M3 R3 hb3 ca cv3 hL3
  go_upto_region 4 with fail
  obtain ⟨V4, hV4⟩ : ∃ V4, V4 = w3.alloc (.cells #[.slice p1 k1 q1, .int .u32 c.pc, .slice p2 k2 q2, .slice p3 k3 q3, .slice p4 k4 q4, .slice p5 k5 q5, .int .u32 c.low, .int .i64 c.st] 32) := ⟨_, rfl⟩
  rw [← hV4]
  have X4 : Bx V4 w3.heap.size (.slice p1 k1 q1) (.int .u32 c.pc) (.slice p2 k2 q2) (.slice p3 k3 q3) (.slice p4 k4 q4) (.slice p5 k5 q5) (.int .u32 c.low) (.int .i64 c.st) := by rw [hV4]; exact Bx.of_heap (heap_alloc_new w3 _)
  have A4 : Below w3.heap.size w3 V4 := by rw [hV4]; exact (Below.refl _ _).alloc (Nat.le_refl _) _
  have zV4 : V4.heap.size = w3.heap.size + 1 := by rw [hV4]; simp
  have R4 := HB3.out.2.2.1.below A4
  have M4 := (A4.block w.heap.size (by omega)).trans HB3.out.2.1
  have cv4 := HB3.out.2.2.2.1.below A4
  have B4 := HB3.out.1.trans (A4.mono (by omega))
  have HB4 : Hid _ := And.intro B4 (And.intro M4 (And.intro R4 (And.intro cv4 X4)))
  obtain ⟨c00, c01, c02, c03, c04, c05, c06, c07, c0f⟩ := id X4
  obtain ⟨z00, z01, z02, z03, z04, z05, z06, z07, z0f⟩ := id R4
  have m00 := cell_of M4 (j := 0) rfl
  have m01 := cell_of M4 (j := 1) rfl
  have m02 := cell_of M4 (j := 2) rfl
  clear hV4 X4 A4 R4 M4 cv4 B4
  have hst' : (c.st == 0) = true := by rw [HST.out]; rfl
  go_upto_region 6 with fail
  obtain ⟨V5, hV5⟩ : ∃ V5, V5 = V4.alloc (.cells #[.bool false, .int .i64 0, .int .i64 0, .int .i64 0, .int .i64 0, .int .i64 0] 54) := ⟨_, rfl⟩
  rw [← hV5]
  have X5 : V5.heap[w3.heap.size + 1]? = some (.cells #[.bool false, .int .i64 0, .int .i64 0, .int .i64 0, .int .i64 0, .int .i64 0] 54) := by rw [hV5, ← zV4]; exact heap_alloc_new V4 _
  have A5 : Below V4.heap.size V4 V5 := by rw [hV5]; exact (Below.refl _ _).alloc (Nat.le_refl _) _
  have zV5 : V5.heap.size = V4.heap.size + 1 := by rw [hV5]; simp
  have N5 := HB4.out.2.2.2.2.below A5
  have R5 := HB4.out.2.2.1.below A5
  have M5 := (A5.block w.heap.size (by omega)).trans HB4.out.2.1
  have cv5 := HB4.out.2.2.2.1.below A5
  have B5 := HB4.out.1.trans (A5.mono (by omega))
  have HB5 : Hid _ := And.intro B5 (And.intro M5 (And.intro R5 (And.intro cv5 (And.intro N5 X5))))
  clear c00 c01 c02 c03 c04 c05 c06 c07 c0f z00 z01 z02 z03 z04 z05 z06 z07 z0f m00 m01 m02
  obtain ⟨c00, c01, c02, c03, c04, c05, c06, c07, c0f⟩ := id N5
  have m00 := cell_of M5 (j := 0) rfl
  have m01 := cell_of M5 (j := 1) rfl
  have m02 := cell_of M5 (j := 2) rfl
  clear hV5 X5 A5 N5 R5 M5 cv5 B5
  go_wp2_with fail
  refine (wi_yes a len cap n d bd c.pc V5 hlI hnI HN0.out.2).mono ?_
  rintro e w6 ⟨rfl, hb6⟩
  have s6 := hb6.size
  have N6 := HB5.out.2.2.2.2.1.below hb6
  have M6 := (hb6.block w.heap.size (by omega)).trans HB5.out.2.1
  have X6 := (hb6.block (w3.heap.size + 1) (by omega)).trans HB5.out.2.2.2.2.2
  have HB6 : Hid _ := And.intro (HB5.out.1.trans (hb6.mono HB5.out.1.size)) (And.intro X6 (And.intro (HB5.out.2.2.1.below hb6) (And.intro (HB5.out.2.2.2.1.below hb6) N6)))
  have hlen := lis_len HCO.out.1
  obtain ⟨gm, om, cm, em, hRm, hbm⟩ := lis_some (HCO.out.1.below HB6.out.1) (by have := HN0.out.1; omega)
  simp only [Value.slice.injEq] at em
  obtain ⟨rfl, rfl, rfl⟩ := em
  have cw := hRm.cell n HN0.out.1
  have hdec := decOf_ok (codes.getD n 0) (HCO.out.2.1.2 n HN0.out.1)
  have hfe : fetchM codes c.pc = decOf (codes.getD n 0) := by
    have hp := HN0.out.2
    unfold fetchM wordAt
    rw [if_pos (by refine ⟨?_, ?_, ?_⟩ <;> omega), show ((c.pc - 4096) / 4).toNat = n by omega]
  have HFE : Hid _ := hfe
  generalize codes.getD n 0 = cwd at *
  generalize decOf cwd = D at *
  have HD : Hid (∀ W : World, Calls Tryz.prog 28 #[.int .u32 cwd] W fun e w' => e = .returned (.agg #[.bool D.o, .int .i64 D.k, .int .i64 D.a, .int .i64 D.b, .int .i64 D.s, .int .i64 D.d]) ∧ Below W.heap.size W w') := hdec.2.1
  clear c00 c01 c02 c03 c04 c05 c06 c07 c0f m00 m01 m02 hdec hfe hRm hbm
  obtain ⟨c00, c01, c02, c03, c04, c05, c06, c07, c0f⟩ := id N6
  have m00 := cell_of M6 (j := 0) rfl
  clear N6 X6 hb6 M6
  dsimp only
  go_wp2_with fail
  refine (HD.out w6).mono ?_
  rintro e w7 ⟨rfl, hb7⟩
  have s7 := hb7.size
  have N7 := HB6.out.2.2.2.2.below hb7
  have X7 := (hb7.block (w3.heap.size + 1) (by omega)).trans HB6.out.2.1
  have HB7 : Hid _ := And.intro (HB6.out.1.trans (hb7.mono HB6.out.1.size)) (And.intro X7 (And.intro (HB6.out.2.2.1.below hb7) (And.intro (HB6.out.2.2.2.1.below hb7) N7)))
  have x0 := cell_of X7 (j := 0) rfl
  have xx1 := cell_of X7 (j := 1) rfl
  have xx2 := cell_of X7 (j := 2) rfl
  have xx3 := cell_of X7 (j := 3) rfl
  have xx4 := cell_of X7 (j := 4) rfl
  have xx5 := cell_of X7 (j := 5) rfl
  have xf : ∀ j, w7.frozen? ⟨w3.heap.size + 1, j, none⟩ = false := fun j => by simp [World.frozen?, X7]
  clear c00 c01 c02 c03 c04 c05 c06 c07 c0f m00 cw HD N7 X7 hb7
  go_wp2_with fail
  have T8 := Tcs.six0x w7 (w3.heap.size + 1) (.bool D.o) (.int .i64 D.k) (.int .i64 D.a) (.int .i64 D.b) (.int .i64 D.s) (.int .i64 D.d)
  obtain ⟨V8, hV8⟩ : ∃ V8, V8 = ((((((w7.setCell ⟨w3.heap.size + 1, 0, none⟩ (.bool D.o)).setCell ⟨w3.heap.size + 1, 1, none⟩ (.int .i64 D.k)).setCell ⟨w3.heap.size + 1, 2, none⟩ (.int .i64 D.a)).setCell ⟨w3.heap.size + 1, 3, none⟩ (.int .i64 D.b)).setCell ⟨w3.heap.size + 1, 4, none⟩ (.int .i64 D.s)).setCell ⟨w3.heap.size + 1, 5, none⟩ (.int .i64 D.d)) := ⟨_, rfl⟩
  rw [← hV8] at T8 ⊢
  have s8 := T8.size
  have hlt3 := HB3.out.2.2.2.2.2
  have HB8 : Hid _ := And.intro (T8.below HB7.out.1 HB7.out.1.size (by rintro k rfl; omega)) (And.intro True.intro (And.intro (HB7.out.2.2.1.keep (T8.block _ HB7.out.2.2.1.lt (by omega))) (And.intro (HB7.out.2.2.2.1.tcs T8 (fun g hg e => by have := hlt3 g hg; omega)) (HB7.out.2.2.2.2.keep (T8.block _ HB7.out.2.2.2.2.lt (by omega))))))
  have hcall := HSS.out w3.heap.size (w3.heap.size :: L3) V8 (CpuV.toIn2 HB8.out.2.2.2.2 HB8.out.2.2.2.1 (fun e => by have := hlt3 _ e; omega))
  rw [HFE.out] at hcall
  refine hcall.mono ?_
  clear hcall hV8 T8 hlt3 x0 xx1 xx2 xx3 xx4 xx5 xf
  rintro e w9 ⟨rfl, L9, hin9, hm9, ht9⟩
  obtain ⟨r9, d9, s9, i9, o9, hbx9, L10, rfl, cv9, j1, j2, j3, j4, j5, a1, b1, a2, b2, a3, b3, a4, b4, a5, b5, rfl, rfl, rfl, rfl, rfl⟩ := hin9.value
  have hL3 := HB3.out.2.2.2.2
  have hmem : ∀ k, k ∈ w3.heap.size :: L3 → w.heap.size + 3 ≤ k := fun k hk => by
    rw [List.mem_cons] at hk
    rcases hk with rfl | hk
    · omega
    · have := hL3.1 k hk; omega
  have s9' := ht9.size
  have R9 := HB8.out.2.2.1.keep (ht9.block (w.heap.size + 1 + 1) HB8.out.2.2.1.lt (fun e => by have := hmem _ e; omega))
  have B9 : Below w.heap.size w w9 := ht9.below HB8.out.1 HB8.out.1.size (fun k hk => by have := hmem k hk; omega)
  obtain ⟨c90, c91, c92, c93, c94, c95, c96, c97, c9f⟩ := id hbx9
  obtain ⟨z90, z91, z92, z93, z94, z95, z96, z97, z9f⟩ := id R9
  have H9 : Hid _ := And.intro cv9 (And.intro hm9 (And.intro hmem B9))
  clear hin9 hbx9 cv9 hm9 ht9 R9 B9 hmem hL3
  go_wp2
  refine bodyPost_ret (v := .agg #[.slice a1 j1 b1, .int .u32 nx.pc, .slice a2 j2 b2, .slice a3 j3 b3, .slice a4 j4 b4, .slice a5 j5 b5, .int .u32 nx.low, .int .i64 nx.st]) (by simp [results, Tryz.results9, go_sem, z90, z91, z92, z93, z94, z95, z96, z97]) rfl ?_
  obtain ⟨cv9, hm9, hmem, B9⟩ := H9.out
  have TR := (Tcs.refl (fun k => k = w.heap.size + 1 + 1) w9).set8 _ rfl (.slice a1 j1 b1) (.int .u32 nx.pc) (.slice a2 j2 b2) (.slice a3 j3 b3) (.slice a4 j4 b4) (.slice a5 j5 b5) (.int .u32 nx.low) (.int .i64 nx.st)
  have zW := HB8.out.1.size
  have hge : ∀ g ∈ L10, w.heap.size + 3 ≤ g := fun g hg => by
    rcases hm9 g (List.mem_cons_of_mem _ hg) with h | h
    · exact hmem g h
    · omega
  exact ⟨_, rfl, (cv9.tcs TR (fun g hg e => by have := hge g hg; omega)).toAt2 (fun g hg => by have := hge g hg; omega), TR.below B9 B9.size (by rintro k rfl; omega)⟩

end Go.Proofs.YtabjcodpagjbjaaGreat

namespace Go.Proofs.YtabjcodpagjbjaaGreat
open Go.RowKit
set_option linter.unusedVariables false
set_option linter.unusedSectionVars false
set_option linter.unusedSimpArgs false
variable [Inhabited Pick]

/-- What a machine's numbers are by their kinds. -/
structure Wf (c : Mc) : Prop where
  ru : ∀ j, j < c.regs.length → 0 ≤ c.regs.getD j 0 ∧ c.regs.getD j 0 ≤ 4294967295
  pcu : 0 ≤ c.pc ∧ c.pc ≤ 4294967295
  lou : 0 ≤ c.low ∧ c.low ≤ 4294967295
  du : ∀ j, j < c.data.length → 0 ≤ c.data.getD j 0 ∧ c.data.getD j 0 ≤ 255
  su : ∀ j, j < c.stack.length → 0 ≤ c.stack.getD j 0 ∧ c.stack.getD j 0 ≤ 255
theorem wrds_at {zs : List Int} (h : wrds zs = true) (j : Nat) (hj : j < zs.length) : -2147483648 ≤ zs.getD j 0 ∧ zs.getD j 0 ≤ 2147483647 := by
  unfold wrds at h
  rw [List.all_eq_true] at h
  have := h (zs.getD j 0) (by simp [List.getD, hj])
  unfold wrd at this
  simpa using this
theorem vimg_of {n : Nat} {d b : Int} (h : vimg n d b = true) : n ≤ 20000 ∧ d ≤ 65536 ∧ b ≤ 1000000 := by
  unfold vimg at h
  simp only [decide_eq_true_eq] at h
  omega
theorem good_of {n : Nat} {d bd : Int} {c : Mc} (hv : vimg n d bd = true) (hg : goodB d bd c = true) (hw : Wf c) : Good c ∧ bd = (c.stack.length : Int) := by
  obtain ⟨g1, g2, g3, g4, g5, g6, g7, g8, g9⟩ := of_decide_eq_true hg
  have h2 := vimg_of hv
  unfold okIn at g5
  simp only [Bool.and_eq_true, decide_eq_true_eq] at g5
  exact ⟨{ r32 := g1, ru := fun j hj => hw.ru j (by omega), r0 := g2, pcu := hw.pcu, lou := hw.lou, dl := by omega, du := hw.du, sl := by omega, su := hw.su, il := g5.1, iu := wrds_at g5.2, ol := by omega, ou := wrds_at g7, st := ⟨g8, g9⟩ }, g4.symm⟩
def stepRes (n : Nat) (d bd : Int) (codes : List Int) (c : Mc) : Mc := if (vimg n d bd && goodB d bd c) = true then (if c.st = 0 then nextM codes bd c else c) else zeroM
theorem sc_any (a : Option Addr) (len cap : Nat) (d bd : Int) (v : Value) (L : List Nat) (c : Mc) (w : World) (hl : len ≤ 1048576) (h : CpuV w v L c) (hs : c.regs.length ≤ 2097152 ∧ c.data.length ≤ 2097152 ∧ c.stack.length ≤ 2097152 ∧ c.inn.length ≤ 2097152 ∧ c.out.length ≤ 2097152) (codes : List Int) (hc : Lis .u32 w (.slice a len cap) codes) (hcu : ∀ j, j < codes.length → 0 ≤ codes.getD j 0 ∧ codes.getD j 0 ≤ 4294967295) (hw : Wf c) :
    Calls Tryz.prog 9 #[.agg #[.slice a len cap, .int .i64 d, .int .i64 bd], v] w fun e w' => ∃ u, e = .returned u ∧ CpuAt w' w.heap.size u (stepRes len d bd codes c) ∧ Below w.heap.size w w' := by
  unfold stepRes
  cases hv : vimg len d bd with
  | false =>
    rw [if_neg (by simp)]
    exact sc_no1 a len cap d bd v L c w hl h hs hv
  | true =>
    cases hg : goodB d bd c with
    | false =>
      rw [if_neg (by simp)]
      exact sc_no2 a len cap d bd v L c w hl h hs hv hg
    | true =>
      rw [if_pos (by simp)]
      obtain ⟨hG, hmb⟩ := good_of hv hg hw
      have hll := lis_len hc
      have hco : CodesOk codes := ⟨by have := vimg_of hv; omega, hcu⟩
      split
      · rename_i hst
        have hS := nextM_ok codes bd c hG hst hmb hco
        by_cases hp : 4096 ≤ c.pc ∧ (c.pc - 4096) % 4 = 0 ∧ (c.pc - 4096) / 4 < (len : Int)
        · obtain ⟨n, hn⟩ := Int.eq_ofNat_of_zero_le (show 0 ≤ (c.pc - 4096) / 4 by omega)
          exact sc_step1 a len cap d bd v L c w hl h hs hv hg hst codes hc _ hS hco hw.pcu n (by omega) (by omega)
        · exact sc_step0 a len cap d bd v L c w hl h hs hv hg hst codes hc _ hS hco hw.pcu hp
      · rename_i hst
        exact sc_stay a len cap d bd v L c w hl h hs hv hg hst

end Go.Proofs.YtabjcodpagjbjaaGreat
