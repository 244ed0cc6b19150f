import Derived.Deep.Cut
import Derived.Test.YtabjcodpagjbjaaGreatK17
import Derived.Test.YtabjcodpagjbjaaGreatK43
import Derived.Test.YtabjcodpagjbjaaGreatRows
import Derived.Test.YtabjcodpagjbjaaGreatK00
import Derived.WalkKit
import Derived.WalkSpells
import Derived.ProofKit
import Derived.Deep.QuietTactic
import Derived.BigQuiet
import Derived.WalkSmall
import Derived.OwnWalk
import Derived.Laws.OwnMore
import Derived.Test.YtabjcodpagjbjaaGreatK02
namespace Go.Proofs.YtabjcodpagjbjaaGreat
open Go.RowKit
set_option linter.unusedVariables false
set_option linter.unusedSectionVars false
set_option linter.unusedSimpArgs false
variable [Inhabited Pick]

set_option maxRecDepth 8000 in
set_option maxHeartbeats 1000000 in
theorem ss_no (a : Option Addr) (len cap : Nat) (d bd : Int) (a1 a2 a3 a4 a5 : Addr) (y1 y2 y3 y4 y5 : Nat) (L : List Nat) (c : Mc) (w : World) (hl : len ≤ 1048576) (h : CpuV w (.agg #[.slice (some a1) c.regs.length y1, .int .u32 c.pc, .slice (some a2) c.data.length y2, .slice (some a3) c.stack.length y3, .slice (some a4) c.inn.length y4, .slice (some a5) c.out.length y5, .int .u32 c.low, .int .i64 c.st]) L c) (hs : c.regs.length ≤ 2097152 ∧ c.data.length ≤ 2097152 ∧ c.stack.length ≤ 2097152 ∧ c.inn.length ≤ 2097152 ∧ c.out.length ≤ 2097152) (hg : (vimg len d bd && goodB d bd c) = false) :
    Calls Tryz.prog 6 #[.agg #[.slice a len cap, .int .i64 d, .int .i64 bd], .agg #[.slice (some a1) c.regs.length y1, .int .u32 c.pc, .slice (some a2) c.data.length y2, .slice (some a3) c.stack.length y3, .slice (some a4) c.inn.length y4, .slice (some a5) c.out.length y5, .int .u32 c.low, .int .i64 c.st]] w fun e w' => ∃ u, e = .returned u ∧ CpuAt w' w.heap.size u zeroM ∧ Below w.heap.size w w' := by
  have B0 : Below w.heap.size w (((w.alloc (.cells #[.slice a len cap, .int .i64 d, .int .i64 bd] 34)).alloc (.cells #[.slice (some a1) c.regs.length y1, .int .u32 c.pc, .slice (some a2) c.data.length y2, .slice (some a3) c.stack.length y3, .slice (some a4) c.inn.length y4, .slice (some a5) c.out.length y5, .int .u32 c.low, .int .i64 c.st] 32)).alloc (.cells #[.slice none 0 0, .int .u32 0, .slice none 0 0, .slice none 0 0, .slice none 0 0, .slice none 0 0, .int .u32 0, .int .i64 0] 32)) := (((Below.refl _ _).alloc (Nat.le_refl _) _).alloc (by simp) _).alloc (by simp; omega) _
  have M0 : (((w.alloc (.cells #[.slice a len cap, .int .i64 d, .int .i64 bd] 34)).alloc (.cells #[.slice (some a1) c.regs.length y1, .int .u32 c.pc, .slice (some a2) c.data.length y2, .slice (some a3) c.stack.length y3, .slice (some a4) c.inn.length y4, .slice (some a5) c.out.length y5, .int .u32 c.low, .int .i64 c.st] 32)).alloc (.cells #[.slice none 0 0, .int .u32 0, .slice none 0 0, .slice none 0 0, .slice none 0 0, .slice none 0 0, .int .u32 0, .int .i64 0] 32)).heap[w.heap.size]? = some (.cells #[.slice a len cap, .int .i64 d, .int .i64 bd] 34) := by rw [Below.heap_alloc _ _ _ (by simp; omega), Below.heap_alloc _ _ _ (by simp)]; exact heap_alloc_new w _
  have C0 : Bx (((w.alloc (.cells #[.slice a len cap, .int .i64 d, .int .i64 bd] 34)).alloc (.cells #[.slice (some a1) c.regs.length y1, .int .u32 c.pc, .slice (some a2) c.data.length y2, .slice (some a3) c.stack.length y3, .slice (some a4) c.inn.length y4, .slice (some a5) c.out.length y5, .int .u32 c.low, .int .i64 c.st] 32)).alloc (.cells #[.slice none 0 0, .int .u32 0, .slice none 0 0, .slice none 0 0, .slice none 0 0, .slice none 0 0, .int .u32 0, .int .i64 0] 32)) (w.heap.size + 1) (.slice (some a1) c.regs.length y1) (.int .u32 c.pc) (.slice (some a2) c.data.length y2) (.slice (some a3) c.stack.length y3) (.slice (some a4) c.inn.length y4) (.slice (some a5) c.out.length y5) (.int .u32 c.low) (.int .i64 c.st) := Bx.of_heap (by rw [Below.heap_alloc _ _ _ (by simp)]; have := heap_alloc_new (w.alloc (.cells #[.slice a len cap, .int .i64 d, .int .i64 bd] 34)) (.cells #[.slice (some a1) c.regs.length y1, .int .u32 c.pc, .slice (some a2) c.data.length y2, .slice (some a3) c.stack.length y3, .slice (some a4) c.inn.length y4, .slice (some a5) c.out.length y5, .int .u32 c.low, .int .i64 c.st] 32); simpa only [World.size_alloc] using this)
  have R0 : Bx (((w.alloc (.cells #[.slice a len cap, .int .i64 d, .int .i64 bd] 34)).alloc (.cells #[.slice (some a1) c.regs.length y1, .int .u32 c.pc, .slice (some a2) c.data.length y2, .slice (some a3) c.stack.length y3, .slice (some a4) c.inn.length y4, .slice (some a5) c.out.length y5, .int .u32 c.low, .int .i64 c.st] 32)).alloc (.cells #[.slice none 0 0, .int .u32 0, .slice none 0 0, .slice none 0 0, .slice none 0 0, .slice none 0 0, .int .u32 0, .int .i64 0] 32)) (w.heap.size + 1 + 1) (.slice none 0 0) (.int .u32 0) (.slice none 0 0) (.slice none 0 0) (.slice none 0 0) (.slice none 0 0) (.int .u32 0) (.int .i64 0) := Bx.of_heap (by have := heap_alloc_new ((w.alloc (.cells #[.slice a len cap, .int .i64 d, .int .i64 bd] 34)).alloc (.cells #[.slice (some a1) c.regs.length y1, .int .u32 c.pc, .slice (some a2) c.data.length y2, .slice (some a3) c.stack.length y3, .slice (some a4) c.inn.length y4, .slice (some a5) c.out.length y5, .int .u32 c.low, .int .i64 c.st] 32)) (.cells #[.slice none 0 0, .int .u32 0, .slice none 0 0, .slice none 0 0, .slice none 0 0, .slice none 0 0, .int .u32 0, .int .i64 0] 32); simpa only [World.size_alloc] using this)
  obtain ⟨V0, hV0⟩ : ∃ V0, V0 = (((w.alloc (.cells #[.slice a len cap, .int .i64 d, .int .i64 bd] 34)).alloc (.cells #[.slice (some a1) c.regs.length y1, .int .u32 c.pc, .slice (some a2) c.data.length y2, .slice (some a3) c.stack.length y3, .slice (some a4) c.inn.length y4, .slice (some a5) c.out.length y5, .int .u32 c.low, .int .i64 c.st] 32)).alloc (.cells #[.slice none 0 0, .int .u32 0, .slice none 0 0, .slice none 0 0, .slice none 0 0, .slice none 0 0, .int .u32 0, .int .i64 0] 32)) := ⟨_, rfl⟩
  have z0 : V0.heap.size = w.heap.size + 3 := by rw [hV0]; simp
  rw [← hV0] at B0 M0 C0 R0
  have HV : Hid _ := And.intro h hs
  have HB0 : Hid _ := And.intro B0 (And.intro M0 (And.intro C0 R0))
  clear h hs B0 R0
  skip
  obtain ⟨c00, c01, c02, c03, c04, c05, c06, c07, c0f⟩ := id C0
  have m00 := cell_of M0 (j := 0) rfl
  have m01 := cell_of M0 (j := 1) rfl
  have m02 := cell_of M0 (j := 2) rfl
  clear M0 C0
  go_enter Tryz.func6, Tryz.ntmps6
  go_upto_region 1 with fail
  rw [← hV0]
  clear hV0
  go_wp2_with fail
  refine (gs_any a len cap d bd _ L c V0 hl (HV.out.1.below HB0.out.1) HV.out.2).mono ?_
  rintro e w1 ⟨rfl, hb1⟩
  rw [hg]
  have s1 := hb1.size
  have B1 := HB0.out.1.trans (hb1.mono HB0.out.1.size)
  have M1 := (hb1.block w.heap.size (by omega)).trans HB0.out.2.1
  have C1 := HB0.out.2.2.1.below hb1
  have R1 := HB0.out.2.2.2.below hb1
  have HB1 : Hid _ := And.intro B1 (And.intro M1 (And.intro C1 R1))
  clear c00 c01 c02 c03 c04 c05 c06 c07 c0f m00 m01 m02 B1 R1 hb1
  obtain ⟨c00, c01, c02, c03, c04, c05, c06, c07, c0f⟩ := id C1
  have m00 := cell_of M1 (j := 0) rfl
  have m01 := cell_of M1 (j := 1) rfl
  have m02 := cell_of M1 (j := 2) rfl
  clear M1 C1
  obtain ⟨z00, z01, z02, z03, z04, z05, z06, z07, z0f⟩ := id HB1.out.2.2.2
  go_wp2
  refine bodyPost_ret (v := .agg #[.slice none 0 0, .int .u32 0, .slice none 0 0, .slice none 0 0, .slice none 0 0, .slice none 0 0, .int .u32 0, .int .i64 0]) (by simp [results, Tryz.results6, go_sem, z00, z01, z02, z03, z04, z05, z06, z07]) rfl ?_
  exact ⟨_, rfl, cpu_zero _ _, ((Tcs.refl (fun k => k = w.heap.size + 1 + 1) _).set8 _ rfl (.slice none 0 0) (.int .u32 0) (.slice none 0 0) (.slice none 0 0) (.slice none 0 0) (.slice none 0 0) (.int .u32 0) (.int .i64 0)).below HB1.out.1 HB1.out.1.size (by rintro k rfl; omega)⟩


set_option maxRecDepth 8000 in
set_option maxHeartbeats 1000000 in
theorem ss_yes (a : Option Addr) (len cap : Nat) (d bd : Int) (a1 a2 a3 a4 a5 : Addr) (y1 y2 y3 y4 y5 : Nat) (L : List Nat) (c : Mc) (w : World) (hl : len ≤ 1048576) (h : CpuV w (.agg #[.slice (some a1) c.regs.length y1, .int .u32 c.pc, .slice (some a2) c.data.length y2, .slice (some a3) c.stack.length y3, .slice (some a4) c.inn.length y4, .slice (some a5) c.out.length y5, .int .u32 c.low, .int .i64 c.st]) L c) (hs : c.regs.length ≤ 2097152 ∧ c.data.length ≤ 2097152 ∧ c.stack.length ≤ 2097152 ∧ c.inn.length ≤ 2097152 ∧ c.out.length ≤ 2097152) (hg : (vimg len d bd && goodB d bd c) = true) (codes : List Int) (hc : Lis .u32 w (.slice a len cap) codes) (nx : Mc)
    (hS : ∀ v L w1, CpuV w1 v L c → Lis .u32 w1 (.slice a len cap) codes → Calls Tryz.prog 19 #[.agg #[.slice a len cap, .int .i64 d, .int .i64 bd], v] w1 fun e w' => ∃ u, e = .returned u ∧ ∃ L', CpuV w' u L' nx ∧ (∀ x ∈ L', x ∈ L ∨ w1.heap.size ≤ x) ∧ Tcs (fun g => g ∈ L) w1 w') :
    Calls Tryz.prog 6 #[.agg #[.slice a len cap, .int .i64 d, .int .i64 bd], .agg #[.slice (some a1) c.regs.length y1, .int .u32 c.pc, .slice (some a2) c.data.length y2, .slice (some a3) c.stack.length y3, .slice (some a4) c.inn.length y4, .slice (some a5) c.out.length y5, .int .u32 c.low, .int .i64 c.st]] w fun e w' => ∃ u, e = .returned u ∧ CpuAt w' w.heap.size u nx ∧ Below w.heap.size w w' := by
  have B0 : Below w.heap.size w (((w.alloc (.cells #[.slice a len cap, .int .i64 d, .int .i64 bd] 34)).alloc (.cells #[.slice (some a1) c.regs.length y1, .int .u32 c.pc, .slice (some a2) c.data.length y2, .slice (some a3) c.stack.length y3, .slice (some a4) c.inn.length y4, .slice (some a5) c.out.length y5, .int .u32 c.low, .int .i64 c.st] 32)).alloc (.cells #[.slice none 0 0, .int .u32 0, .slice none 0 0, .slice none 0 0, .slice none 0 0, .slice none 0 0, .int .u32 0, .int .i64 0] 32)) := (((Below.refl _ _).alloc (Nat.le_refl _) _).alloc (by simp) _).alloc (by simp; omega) _
  have M0 : (((w.alloc (.cells #[.slice a len cap, .int .i64 d, .int .i64 bd] 34)).alloc (.cells #[.slice (some a1) c.regs.length y1, .int .u32 c.pc, .slice (some a2) c.data.length y2, .slice (some a3) c.stack.length y3, .slice (some a4) c.inn.length y4, .slice (some a5) c.out.length y5, .int .u32 c.low, .int .i64 c.st] 32)).alloc (.cells #[.slice none 0 0, .int .u32 0, .slice none 0 0, .slice none 0 0, .slice none 0 0, .slice none 0 0, .int .u32 0, .int .i64 0] 32)).heap[w.heap.size]? = some (.cells #[.slice a len cap, .int .i64 d, .int .i64 bd] 34) := by rw [Below.heap_alloc _ _ _ (by simp; omega), Below.heap_alloc _ _ _ (by simp)]; exact heap_alloc_new w _
  have C0 : Bx (((w.alloc (.cells #[.slice a len cap, .int .i64 d, .int .i64 bd] 34)).alloc (.cells #[.slice (some a1) c.regs.length y1, .int .u32 c.pc, .slice (some a2) c.data.length y2, .slice (some a3) c.stack.length y3, .slice (some a4) c.inn.length y4, .slice (some a5) c.out.length y5, .int .u32 c.low, .int .i64 c.st] 32)).alloc (.cells #[.slice none 0 0, .int .u32 0, .slice none 0 0, .slice none 0 0, .slice none 0 0, .slice none 0 0, .int .u32 0, .int .i64 0] 32)) (w.heap.size + 1) (.slice (some a1) c.regs.length y1) (.int .u32 c.pc) (.slice (some a2) c.data.length y2) (.slice (some a3) c.stack.length y3) (.slice (some a4) c.inn.length y4) (.slice (some a5) c.out.length y5) (.int .u32 c.low) (.int .i64 c.st) := Bx.of_heap (by rw [Below.heap_alloc _ _ _ (by simp)]; have := heap_alloc_new (w.alloc (.cells #[.slice a len cap, .int .i64 d, .int .i64 bd] 34)) (.cells #[.slice (some a1) c.regs.length y1, .int .u32 c.pc, .slice (some a2) c.data.length y2, .slice (some a3) c.stack.length y3, .slice (some a4) c.inn.length y4, .slice (some a5) c.out.length y5, .int .u32 c.low, .int .i64 c.st] 32); simpa only [World.size_alloc] using this)
  have R0 : Bx (((w.alloc (.cells #[.slice a len cap, .int .i64 d, .int .i64 bd] 34)).alloc (.cells #[.slice (some a1) c.regs.length y1, .int .u32 c.pc, .slice (some a2) c.data.length y2, .slice (some a3) c.stack.length y3, .slice (some a4) c.inn.length y4, .slice (some a5) c.out.length y5, .int .u32 c.low, .int .i64 c.st] 32)).alloc (.cells #[.slice none 0 0, .int .u32 0, .slice none 0 0, .slice none 0 0, .slice none 0 0, .slice none 0 0, .int .u32 0, .int .i64 0] 32)) (w.heap.size + 1 + 1) (.slice none 0 0) (.int .u32 0) (.slice none 0 0) (.slice none 0 0) (.slice none 0 0) (.slice none 0 0) (.int .u32 0) (.int .i64 0) := Bx.of_heap (by have := heap_alloc_new ((w.alloc (.cells #[.slice a len cap, .int .i64 d, .int .i64 bd] 34)).alloc (.cells #[.slice (some a1) c.regs.length y1, .int .u32 c.pc, .slice (some a2) c.data.length y2, .slice (some a3) c.stack.length y3, .slice (some a4) c.inn.length y4, .slice (some a5) c.out.length y5, .int .u32 c.low, .int .i64 c.st] 32)) (.cells #[.slice none 0 0, .int .u32 0, .slice none 0 0, .slice none 0 0, .slice none 0 0, .slice none 0 0, .int .u32 0, .int .i64 0] 32); simpa only [World.size_alloc] using this)
  obtain ⟨V0, hV0⟩ : ∃ V0, V0 = (((w.alloc (.cells #[.slice a len cap, .int .i64 d, .int .i64 bd] 34)).alloc (.cells #[.slice (some a1) c.regs.length y1, .int .u32 c.pc, .slice (some a2) c.data.length y2, .slice (some a3) c.stack.length y3, .slice (some a4) c.inn.length y4, .slice (some a5) c.out.length y5, .int .u32 c.low, .int .i64 c.st] 32)).alloc (.cells #[.slice none 0 0, .int .u32 0, .slice none 0 0, .slice none 0 0, .slice none 0 0, .slice none 0 0, .int .u32 0, .int .i64 0] 32)) := ⟨_, rfl⟩
  have z0 : V0.heap.size = w.heap.size + 3 := by rw [hV0]; simp
  rw [← hV0] at B0 M0 C0 R0
  have HV : Hid _ := And.intro h hs
  have HB0 : Hid _ := And.intro B0 (And.intro M0 (And.intro C0 R0))
  clear h hs B0 R0
  have HSS : Hid (∀ v L w1, CpuV w1 v L c → _) := hS
  have HCO : Hid (Lis .u32 w (.slice a len cap) codes) := hc
  clear hS hc
  obtain ⟨c00, c01, c02, c03, c04, c05, c06, c07, c0f⟩ := id C0
  have m00 := cell_of M0 (j := 0) rfl
  have m01 := cell_of M0 (j := 1) rfl
  have m02 := cell_of M0 (j := 2) rfl
  clear M0 C0
  go_enter Tryz.func6, Tryz.ntmps6
  go_upto_region 1 with fail
  rw [← hV0]
  clear hV0
  go_wp2_with fail
  refine (gs_any a len cap d bd _ L c V0 hl (HV.out.1.below HB0.out.1) HV.out.2).mono ?_
  rintro e w1 ⟨rfl, hb1⟩
  rw [hg]
  have s1 := hb1.size
  have B1 := HB0.out.1.trans (hb1.mono HB0.out.1.size)
  have M1 := (hb1.block w.heap.size (by omega)).trans HB0.out.2.1
  have C1 := HB0.out.2.2.1.below hb1
  have R1 := HB0.out.2.2.2.below hb1
  have HB1 : Hid _ := And.intro B1 (And.intro M1 (And.intro C1 R1))
  clear c00 c01 c02 c03 c04 c05 c06 c07 c0f m00 m01 m02 B1 R1 hb1
  obtain ⟨c00, c01, c02, c03, c04, c05, c06, c07, c0f⟩ := id C1
  have m00 := cell_of M1 (j := 0) rfl
  have m01 := cell_of M1 (j := 1) rfl
  have m02 := cell_of M1 (j := 2) rfl
  clear M1 C1
  obtain ⟨w1d, hw1d⟩ : ∃ x, x = w1.drew := ⟨_, rfl⟩
  have BD : Below w1.heap.size w1 w1d := by rw [hw1d]; exact (Below.refl _ _).drew
  have BDW := HB1.out.1.trans (BD.mono HB1.out.1.size)
  have HCP : Hid (Calls Tryz.prog 20 #[.agg #[.slice (some a1) c.regs.length y1, .int .u32 c.pc, .slice (some a2) c.data.length y2, .slice (some a3) c.stack.length y3, .slice (some a4) c.inn.length y4, .slice (some a5) c.out.length y5, .int .u32 c.low, .int .i64 c.st]] w1d fun e w' => ∃ u, e = .returned u ∧ CpuAt w' w1d.heap.size u c ∧ Below w1d.heap.size w1d w') := cp_any a1 a2 a3 a4 a5 y1 y2 y3 y4 y5 L c w1d (HV.out.1.below BDW) HV.out.2
  have HST2 : Hid (∀ u2 w2, CpuAt w2 w1d.heap.size u2 c → Below w1d.heap.size w1d w2 → Calls Tryz.prog 19 #[.agg #[.slice a len cap, .int .i64 d, .int .i64 bd], u2] w2 fun e w' => ∃ j1 j2 j3 j4 j5 e1 f1 e2 f2 e3 f3 e4 f4 e5 f5, e = .returned (.agg #[.slice e1 j1 f1, .int .u32 nx.pc, .slice e2 j2 f2, .slice e3 j3 f3, .slice e4 j4 f4, .slice e5 j5 f5, .int .u32 nx.low, .int .i64 nx.st]) ∧ ∃ L3, CpuV w' (.agg #[.slice e1 j1 f1, .int .u32 nx.pc, .slice e2 j2 f2, .slice e3 j3 f3, .slice e4 j4 f4, .slice e5 j5 f5, .int .u32 nx.low, .int .i64 nx.st]) L3 nx ∧ (∀ g ∈ L3, w.heap.size + 3 ≤ g) ∧ Tcs (fun g => w.heap.size + 3 ≤ g) w1d w') := by
    intro u2 w2 ca hb2
    obtain ⟨L2, cv2, hL2⟩ := ca.toV2
    have zd := BD.size
    have z2 := hb2.size
    refine (HSS.out u2 L2 w2 cv2 (HCO.out.below (BDW.trans (hb2.mono (by have := BDW.size; omega))))).mono ?_
    rintro e w3 ⟨u3, rfl, L3, cv3, hm3, ht3⟩
    obtain ⟨j1, j2, j3, j4, j5, e1, f1, e2, f2, e3, f3, e4, f4, e5, f5, rfl⟩ := cv3.shape
    refine ⟨j1, j2, j3, j4, j5, e1, f1, e2, f2, e3, f3, e4, f4, e5, f5, rfl, L3, cv3, fun g hg => ?_, (Below.tcs hb2).trans (ht3.mono fun k hk => by have := hL2 k hk; omega)⟩
    rcases hm3 g hg with h | h
    · have := hL2 g h; omega
    · omega
  have zd := BD.size
  have HKP : Hid (∀ W', Tcs (fun g => w.heap.size + 3 ≤ g) w1d W' → ((W'.cell? ⟨w.heap.size, 0, none⟩ = some (.slice a len cap) ∧ W'.cell? ⟨w.heap.size, 1, none⟩ = some (.int .i64 d) ∧ W'.cell? ⟨w.heap.size, 2, none⟩ = some (.int .i64 bd)) ∧ W'.cell? ⟨w.heap.size + 1, 0, none⟩ = some (.slice (some a1) c.regs.length y1) ∧ W'.cell? ⟨w.heap.size + 1, 1, none⟩ = some (.int .u32 c.pc) ∧ W'.cell? ⟨w.heap.size + 1, 2, none⟩ = some (.slice (some a2) c.data.length y2) ∧ W'.cell? ⟨w.heap.size + 1, 3, none⟩ = some (.slice (some a3) c.stack.length y3) ∧ W'.cell? ⟨w.heap.size + 1, 4, none⟩ = some (.slice (some a4) c.inn.length y4) ∧ W'.cell? ⟨w.heap.size + 1, 5, none⟩ = some (.slice (some a5) c.out.length y5) ∧ W'.cell? ⟨w.heap.size + 1, 6, none⟩ = some (.int .u32 c.low) ∧ W'.cell? ⟨w.heap.size + 1, 7, none⟩ = some (.int .i64 c.st))) := fun W' hT => by
    have eM := hT.block w.heap.size (by omega) (by omega)
    have eC := hT.block (w.heap.size + 1) (by omega) (by omega)
    have M' := eM.trans ((BD.block _ (by omega)).trans HB1.out.2.1)
    have C' := (HB1.out.2.2.1.below BD).keep eC
    exact ⟨⟨cell_of M' (j := 0) rfl, cell_of M' (j := 1) rfl, cell_of M' (j := 2) rfl⟩, C'.c0, C'.c1, C'.c2, C'.c3, C'.c4, C'.c5, C'.c6, C'.c7⟩
  have HB2 : Hid _ := And.intro BDW (HB1.out.2.2.2.below BD)
  have HRK : Hid (∀ W', Tcs (fun g => w.heap.size + 3 ≤ g) w1d W' → Bx W' (w.heap.size + 1 + 1) (.slice none 0 0) (.int .u32 0) (.slice none 0 0) (.slice none 0 0) (.slice none 0 0) (.slice none 0 0) (.int .u32 0) (.int .i64 0)) := fun W' hT => HB2.out.2.keep (hT.block _ HB2.out.2.lt (by omega))
  clear BD BDW
  go_wp2_with fail
  go_region_held3 (fun W' => ((W'.cell? ⟨w.heap.size, 0, none⟩ = some (.slice a len cap) ∧ W'.cell? ⟨w.heap.size, 1, none⟩ = some (.int .i64 d) ∧ W'.cell? ⟨w.heap.size, 2, none⟩ = some (.int .i64 bd)) ∧ W'.cell? ⟨w.heap.size + 1, 0, none⟩ = some (.slice (some a1) c.regs.length y1) ∧ W'.cell? ⟨w.heap.size + 1, 1, none⟩ = some (.int .u32 c.pc) ∧ W'.cell? ⟨w.heap.size + 1, 2, none⟩ = some (.slice (some a2) c.data.length y2) ∧ W'.cell? ⟨w.heap.size + 1, 3, none⟩ = some (.slice (some a3) c.stack.length y3) ∧ W'.cell? ⟨w.heap.size + 1, 4, none⟩ = some (.slice (some a4) c.inn.length y4) ∧ W'.cell? ⟨w.heap.size + 1, 5, none⟩ = some (.slice (some a5) c.out.length y5) ∧ W'.cell? ⟨w.heap.size + 1, 6, none⟩ = some (.int .u32 c.low) ∧ W'.cell? ⟨w.heap.size + 1, 7, none⟩ = some (.int .i64 c.st))) (go_simp)
    (first
    | (go_at_call 20; rw [← hw1d]; refine HCP.out.mono ?_; rintro e w2 ⟨u2, rfl, ca2, hb2⟩; obtain ⟨⟨qm0, qm1, qm2⟩, qc0, qc1, qc2, qc3, qc4, qc5, qc6, qc7⟩ := HKP.out w2 (Below.tcs hb2); have HCA : Hid _ := And.intro ca2 hb2; clear ca2 hb2)
    | (go_at_call 19; refine (HST2.out u2 w2 HCA.out.1 HCA.out.2).mono ?_; rintro e w3 ⟨j1, j2, j3, j4, j5, e1, f1, e2, f2, e3, f3, e4, f4, e5, f5, rfl, L3, cv3, hge, ht3⟩; obtain ⟨⟨qn0, qn1, qn2⟩, qd0, qd1, qd2, qd3, qd4, qd5, qd6, qd7⟩ := HKP.out w3 ht3; obtain ⟨z00, z01, z02, z03, z04, z05, z06, z07, z0f⟩ := HRK.out w3 ht3; have H0 : Hid _ := And.intro cv3 (And.intro hge ht3); clear cv3 hge ht3))
  obtain ⟨cv3, hge, ht3⟩ := H0.out
  have s3 := ht3.size
  have B3 : Below w.heap.size w w3 := ht3.below HB2.out.1 HB2.out.1.size (fun k hk => by omega)
  have H3 : Hid _ := And.intro cv3 (And.intro hge B3)
  clear cv3 hge ht3 B3 H0 qn0 qn1 qn2 qd0 qd1 qd2 qd3 qd4 qd5 qd6 qd7 qm0 qm1 qm2 qc0 qc1 qc2 qc3 qc4 qc5 qc6 qc7 m00 m01 m02 c00 c01 c02 c03 c04 c05 c06 c07 c0f
  go_wp2
  refine bodyPost_ret (v := .agg #[.slice e1 j1 f1, .int .u32 nx.pc, .slice e2 j2 f2, .slice e3 j3 f3, .slice e4 j4 f4, .slice e5 j5 f5, .int .u32 nx.low, .int .i64 nx.st]) (by simp [results, Tryz.results6, go_sem, z00, z01, z02, z03, z04, z05, z06, z07]) rfl ?_
  obtain ⟨cv3, hge, B3⟩ := H3.out
  have TR := (Tcs.refl (fun k => k = w.heap.size + 1 + 1) w3).set8 _ rfl (.slice e1 j1 f1) (.int .u32 nx.pc) (.slice e2 j2 f2) (.slice e3 j3 f3) (.slice e4 j4 f4) (.slice e5 j5 f5) (.int .u32 nx.low) (.int .i64 nx.st)
  exact ⟨_, rfl, (cv3.tcs TR (fun g hg e => by have := hge g hg; omega)).toAt2 (fun g hg => by have := hge g hg; omega), TR.below B3 B3.size (by rintro k rfl; omega)⟩


theorem ss_any (a : Option Addr) (len cap : Nat) (d bd : Int) (a1 a2 a3 a4 a5 : Addr) (y1 y2 y3 y4 y5 : Nat) (L : List Nat) (c : Mc) (w : World) (hl : len ≤ 1048576) (h : CpuV w (.agg #[.slice (some a1) c.regs.length y1, .int .u32 c.pc, .slice (some a2) c.data.length y2, .slice (some a3) c.stack.length y3, .slice (some a4) c.inn.length y4, .slice (some a5) c.out.length y5, .int .u32 c.low, .int .i64 c.st]) L c) (hs : c.regs.length ≤ 2097152 ∧ c.data.length ≤ 2097152 ∧ c.stack.length ≤ 2097152 ∧ c.inn.length ≤ 2097152 ∧ c.out.length ≤ 2097152) (codes : List Int) (hc : Lis .u32 w (.slice a len cap) codes) (hcu : ∀ j, j < codes.length → 0 ≤ codes.getD j 0 ∧ codes.getD j 0 ≤ 4294967295) (hw : Wf c) :
    Calls Tryz.prog 6 #[.agg #[.slice a len cap, .int .i64 d, .int .i64 bd], .agg #[.slice (some a1) c.regs.length y1, .int .u32 c.pc, .slice (some a2) c.data.length y2, .slice (some a3) c.stack.length y3, .slice (some a4) c.inn.length y4, .slice (some a5) c.out.length y5, .int .u32 c.low, .int .i64 c.st]] w fun e w' => ∃ u, e = .returned u ∧ CpuAt w' w.heap.size u (stepRes len d bd codes c) ∧ Below w.heap.size w w' := by
  unfold stepRes
  split
  · rename_i hg
    have hg' := hg
    simp only [Bool.and_eq_true] at hg'
    obtain ⟨hG, hmb⟩ := good_of hg'.1 hg'.2 hw
    have hll := lis_len hc
    have hco : CodesOk codes := ⟨by have := vimg_of hg'.1; omega, hcu⟩
    split
    · rename_i hst
      have hS := nextM_ok codes bd c hG hst hmb hco
      exact ss_yes a len cap d bd a1 a2 a3 a4 a5 y1 y2 y3 y4 y5 L c w hl h hs hg codes hc _ (fun v L w1 hv hl => hS.2.1 a len cap d v L w1 hv hl)
    · rename_i hst
      exact ss_yes a len cap d bd a1 a2 a3 a4 a5 y1 y2 y3 y4 y5 L c w hl h hs hg codes hc _ (fun v L w1 hv hl => st_stay a len cap d bd v L c w1 hG hv hst)
  · rename_i hg
    exact ss_no a len cap d bd a1 a2 a3 a4 a5 y1 y2 y3 y4 y5 L c w hl h hs (by simpa using hg)

end Go.Proofs.YtabjcodpagjbjaaGreat

namespace Go.Proofs.YtabjcodpagjbjaaGreat
open Go.RowKit
set_option linter.unusedVariables false
set_option linter.unusedSectionVars false
set_option linter.unusedSimpArgs false
variable [Inhabited Pick]

/-- A slice that holds the numbers zs, to be read. -/
def Rds (k : IntKind) (w : World) (v : Value) (zs : List Int) : Prop :=
  ∃ a cap, v = .slice a zs.length cap ∧ (0 < zs.length → ∃ g off, a = some ⟨g, off, none⟩ ∧ g < w.heap.size ∧ ∀ j, j < zs.length → w.cell? ⟨g, off + j, none⟩ = some (.int k (zs.getD j 0)))
theorem Lis.rds {k : IntKind} {w : World} {v : Value} {zs : List Int} (h : Lis k w v zs) : Rds k w v zs := by
  obtain ⟨a, cap, rfl, hr⟩ := h
  refine ⟨a, cap, rfl, fun hn => ?_⟩
  obtain ⟨g, off, e, hR⟩ := hr hn
  exact ⟨g, off, e, hR.lt, hR.cell⟩
theorem Rds.below {k : IntKind} {w w' : World} {v : Value} {zs : List Int} (h : Rds k w v zs) (hb : Below w.heap.size w w') : Rds k w' v zs := by
  obtain ⟨a, cap, rfl, hr⟩ := h
  refine ⟨a, cap, rfl, fun hn => ?_⟩
  obtain ⟨g, off, e, hl, hc⟩ := hr hn
  exact ⟨g, off, e, Nat.lt_of_lt_of_le hl hb.size, fun j hj => (hb.cell (p := ⟨g, off + j, none⟩) hl).trans (hc j hj)⟩
theorem Rds.cases {k : IntKind} {w : World} {v : Value} {zs : List Int} (h : Rds k w v zs) : (zs = [] ∧ ∃ a cap, v = .slice a 0 cap) ∨ (0 < zs.length ∧ ∃ g off cap, v = .slice (some ⟨g, off, none⟩) zs.length cap ∧ g < w.heap.size ∧ ∀ j, j < zs.length → w.cell? ⟨g, off + j, none⟩ = some (.int k (zs.getD j 0))) := by
  obtain ⟨a, cap, rfl, hr⟩ := h
  by_cases hn : 0 < zs.length
  · obtain ⟨g, off, rfl, hR⟩ := hr hn
    exact .inr ⟨hn, g, off, cap, rfl, hR⟩
  · obtain rfl : zs = [] := List.eq_nil_of_length_eq_zero (by omega)
    exact .inl ⟨rfl, a, cap, rfl⟩
theorem eq_map {k : IntKind} {xs : List Value} {zs : List Int} (hl : xs.length = zs.length) (h : ∀ j, j < zs.length → xs[j]? = some (.int k (zs.getD j 0))) : xs = zs.map (Value.int k) := by
  apply List.ext_getElem?
  intro j
  by_cases hj : j < zs.length
  · rw [h j hj]
    simp [List.getD, hj]
  · simp [hl, hj]


set_option maxHeartbeats 1000000 in
theorem to_u32 (v : Value) (zs : List Int) (w : World) (hl : zs.length ≤ 1048576) (h : Rds .u32 w v zs) :
    Calls Tryz.prog 21 #[v] w fun e w' => ∃ g c, e = .returned (.slice (some ⟨g, 0, none⟩) zs.length c) ∧ w'.ownsRow w.heap.size 25 1 (.slice (some ⟨g, 0, none⟩) zs.length c) zs.length (zs.map (Value.int .u32)) ∧ Below w.heap.size w w' := by
  rcases h.cases with ⟨rfl, a, cap, rfl⟩ | ⟨hn, b, off, cap, rfl, hb, hc⟩
  · have hmk : ∀ w : World, (Instr.makeSlice 22 (.int .i64 0) (.int .i64 0)).run Tryz.prog w = .ok (.slice (some ⟨w.heap.size, 0, none⟩) 0 0) (w.alloc (.cells #[] 25)) := fun _ => by kernel_rfl
    clear h hl
    go_enter Tryz.func21, Tryz.ntmps21
    go_wp2
    refine wp_loop_rounds 1 ?_
    rw [rounds_succ]
    go_wp2
    go_ret
    exact ⟨_, _, rfl, World.ownsRow_lit w #[] 0 (Nat.le_refl _) (by decide) rfl, (Below.refl _ _).alloc (Nat.le_refl _) _⟩
  · clear h
    obtain ⟨i0, hi, hz0, hz1, hz2⟩ := info_parts Tryz.infu32
    generalize hlen : zs.length = len at *
    have HLN : Hid _ := hlen
    clear hlen
    go_enter Tryz.func21, Tryz.ntmps21
    go_wp2_with (at_make; refine wpList_make_full _ rfl _ _ 22 rfl w.heap.size 25 i0 (.int .u32 0) 1 Tryz.underlying22 hi hz0 hz1 _ _ _ _ len rfl rfl (by omega) (by omega) ?_ ?_ (Nat.le_refl _) ?_)
    · rw [hz2]; omega
    · unfold maxLen; omega
    intro w1 hown1 hgrow1
    have hnx1 : Below w.heap.size w w1 := (Below.refl _ _).grown hgrow1 (Nat.le_refl _) (by simp)
    go_wp2
    go_loopw [4] (fun i wr => ∃ k : Nat, k ≤ len ∧ i = .int .i64 k ∧ (∃ xs : List Value, wr.ownsRow w.heap.size 25 1 (.slice (some ⟨w.heap.size, 0, none⟩) len len) len xs ∧ ∀ j, j < k → xs[j]? = some (.int .u32 (zs.getD j 0))) ∧ Below w.heap.size w wr)
      (fun i _ => len - (intOf i).toNat)
    case atStart => exact ⟨0, Nat.zero_le _, rfl, ⟨_, hown1, fun j hj => absurd hj (Nat.not_lt_zero _)⟩, hnx1⟩
    case round =>
      obtain ⟨k, hk, rfl, ⟨xs, hown, hxs⟩, hnx⟩ := hrel
      clear hown1 hgrow1 hnx1
      by_cases hlt : k < len
      · have hcx := (hnx.cell (p := ⟨b, off + k, none⟩) hb).trans (hc k hlt)
        have hlen : xs.length = len := by have := hown.1; omega
        have hold : wr.cell? ⟨w.heap.size, k, none⟩ = some (xs[k]'(by omega)) := by rw [hown.cellAt k (by omega)]; simp
        have hfz := hown.frozenAt k
        have R := hown.stored k (.int .u32 (zs.getD k 0))
        have HR : Hid _ := R
        have HX : Hid _ := hxs
        clear hxs R hown
        go_wp2
        go_roundw
        case rel =>
          refine ⟨k + 1, by omega, by go_num, ⟨_, HR.out.1, fun j hj => ?_⟩, hnx.setCell (by simp) _⟩
          rw [List.getElem?_set]
          by_cases hjk : k = j
          · subst hjk; simp; omega
          · rw [if_neg hjk]; exact HX.out j (by omega)
        case measure => simp [intOf]; omega
      · have HX : Hid _ := hxs
        have HO : Hid _ := hown
        clear hxs hown
        go_wp2
        go_ret
        have hl' := HLN.out
        obtain rfl := eq_map (k := .u32) (xs := xs) (zs := zs) (by rw [hl']; have := HO.out.1; omega) (fun j hj => HX.out j (by omega))
        exact ⟨_, _, rfl, HO.out, hnx⟩


set_option maxHeartbeats 1000000 in
theorem eq_u32 (v1 v2 : Value) (zs : List Int) (w : World) (hl : zs.length ≤ 2097152) (h1 : Rds .u32 w v1 zs) (h2 : Rds .u32 w v2 zs) :
    Calls Tryz.prog 30 #[v1, v2] w fun e w' => e = .returned (.bool true) ∧ ∃ n, w' = w.drewN n := by
  rcases h1.cases with ⟨rfl, a1, c1, rfl⟩ | ⟨hn, b1, off1, c1, rfl, _, hc1⟩
  · rcases h2.cases with ⟨_, a2, c2, rfl⟩ | ⟨hn, _⟩
    · clear h1 h2 hl
      go_enter Tryz.func30, Tryz.ntmps30
      go_wp2
      refine wp_loop_rounds 1 ?_
      rw [rounds_succ]
      go_wp2
      go_ret
      exact ⟨rfl, 0, rfl⟩
    · simp at hn
  · rcases h2.cases with ⟨rfl, _⟩ | ⟨_, b2, off2, c2, rfl, _, hc2⟩
    · simp at hn
    · clear h1 h2
      generalize hlen : zs.length = len at *
      clear hlen
      go_enter Tryz.func30, Tryz.ntmps30
      go_wp2
      go_loopw [5] (fun i wr => ∃ k : Nat, k ≤ len ∧ i = .int .i64 k ∧ ∃ n, wr = w.drewN n) (fun i _ => len - (intOf i).toNat)
      case atStart => exact ⟨0, Nat.zero_le _, rfl, 0, rfl⟩
      case round =>
        obtain ⟨k, hk, rfl, n, rfl⟩ := hrel
        by_cases hlt : k < len
        · have h1 := hc1 k hlt
          have h2 := hc2 k hlt
          go_wp2
          go_quiet (fail)
          go_wp2
          go_roundw
          case rel => exact ⟨k + 1, by omega, by go_num, n + nq, by first | rfl | rw [World.drewN_drewN]⟩
          case measure => simp [intOf]; omega
        · go_wp2
          go_ret
          exact ⟨rfl, n, rfl⟩


set_option maxHeartbeats 1000000 in
theorem to_u8 (v : Value) (zs : List Int) (w : World) (hl : zs.length ≤ 1048576) (h : Rds .u8 w v zs) :
    Calls Tryz.prog 22 #[v] w fun e w' => ∃ g c, e = .returned (.slice (some ⟨g, 0, none⟩) zs.length c) ∧ w'.ownsRow w.heap.size 5 1 (.slice (some ⟨g, 0, none⟩) zs.length c) zs.length (zs.map (Value.int .u8)) ∧ Below w.heap.size w w' := by
  rcases h.cases with ⟨rfl, a, cap, rfl⟩ | ⟨hn, b, off, cap, rfl, hb, hc⟩
  · have hmk : ∀ w : World, (Instr.makeSlice 26 (.int .i64 0) (.int .i64 0)).run Tryz.prog w = .ok (.slice (some ⟨w.heap.size, 0, none⟩) 0 0) (w.alloc (.cells #[] 5)) := fun _ => by kernel_rfl
    clear h hl
    go_enter Tryz.func22, Tryz.ntmps22
    go_wp2
    refine wp_loop_rounds 1 ?_
    rw [rounds_succ]
    go_wp2
    go_ret
    exact ⟨_, _, rfl, World.ownsRow_lit w #[] 0 (Nat.le_refl _) (by decide) rfl, (Below.refl _ _).alloc (Nat.le_refl _) _⟩
  · clear h
    obtain ⟨i0, hi, hz0, hz1, hz2⟩ := info_parts Tryz.infu8
    generalize hlen : zs.length = len at *
    have HLN : Hid _ := hlen
    clear hlen
    go_enter Tryz.func22, Tryz.ntmps22
    go_wp2_with (at_make; refine wpList_make_full _ rfl _ _ 26 rfl w.heap.size 5 i0 (.int .u8 0) 1 Tryz.underlying26 hi hz0 hz1 _ _ _ _ len rfl rfl (by omega) (by omega) ?_ ?_ (Nat.le_refl _) ?_)
    · rw [hz2]; omega
    · unfold maxLen; omega
    intro w1 hown1 hgrow1
    have hnx1 : Below w.heap.size w w1 := (Below.refl _ _).grown hgrow1 (Nat.le_refl _) (by simp)
    go_wp2
    go_loopw [4] (fun i wr => ∃ k : Nat, k ≤ len ∧ i = .int .i64 k ∧ (∃ xs : List Value, wr.ownsRow w.heap.size 5 1 (.slice (some ⟨w.heap.size, 0, none⟩) len len) len xs ∧ ∀ j, j < k → xs[j]? = some (.int .u8 (zs.getD j 0))) ∧ Below w.heap.size w wr)
      (fun i _ => len - (intOf i).toNat)
    case atStart => exact ⟨0, Nat.zero_le _, rfl, ⟨_, hown1, fun j hj => absurd hj (Nat.not_lt_zero _)⟩, hnx1⟩
    case round =>
      obtain ⟨k, hk, rfl, ⟨xs, hown, hxs⟩, hnx⟩ := hrel
      clear hown1 hgrow1 hnx1
      by_cases hlt : k < len
      · have hcx := (hnx.cell (p := ⟨b, off + k, none⟩) hb).trans (hc k hlt)
        have hlen : xs.length = len := by have := hown.1; omega
        have hold : wr.cell? ⟨w.heap.size, k, none⟩ = some (xs[k]'(by omega)) := by rw [hown.cellAt k (by omega)]; simp
        have hfz := hown.frozenAt k
        have R := hown.stored k (.int .u8 (zs.getD k 0))
        have HR : Hid _ := R
        have HX : Hid _ := hxs
        clear hxs R hown
        go_wp2
        go_roundw
        case rel =>
          refine ⟨k + 1, by omega, by go_num, ⟨_, HR.out.1, fun j hj => ?_⟩, hnx.setCell (by simp) _⟩
          rw [List.getElem?_set]
          by_cases hjk : k = j
          · subst hjk; simp; omega
          · rw [if_neg hjk]; exact HX.out j (by omega)
        case measure => simp [intOf]; omega
      · have HX : Hid _ := hxs
        have HO : Hid _ := hown
        clear hxs hown
        go_wp2
        go_ret
        have hl' := HLN.out
        obtain rfl := eq_map (k := .u8) (xs := xs) (zs := zs) (by rw [hl']; have := HO.out.1; omega) (fun j hj => HX.out j (by omega))
        exact ⟨_, _, rfl, HO.out, hnx⟩


set_option maxHeartbeats 1000000 in
theorem eq_u8 (v1 v2 : Value) (zs : List Int) (w : World) (hl : zs.length ≤ 2097152) (h1 : Rds .u8 w v1 zs) (h2 : Rds .u8 w v2 zs) :
    Calls Tryz.prog 31 #[v1, v2] w fun e w' => e = .returned (.bool true) ∧ ∃ n, w' = w.drewN n := by
  rcases h1.cases with ⟨rfl, a1, c1, rfl⟩ | ⟨hn, b1, off1, c1, rfl, _, hc1⟩
  · rcases h2.cases with ⟨_, a2, c2, rfl⟩ | ⟨hn, _⟩
    · clear h1 h2 hl
      go_enter Tryz.func31, Tryz.ntmps31
      go_wp2
      refine wp_loop_rounds 1 ?_
      rw [rounds_succ]
      go_wp2
      go_ret
      exact ⟨rfl, 0, rfl⟩
    · simp at hn
  · rcases h2.cases with ⟨rfl, _⟩ | ⟨_, b2, off2, c2, rfl, _, hc2⟩
    · simp at hn
    · clear h1 h2
      generalize hlen : zs.length = len at *
      clear hlen
      go_enter Tryz.func31, Tryz.ntmps31
      go_wp2
      go_loopw [5] (fun i wr => ∃ k : Nat, k ≤ len ∧ i = .int .i64 k ∧ ∃ n, wr = w.drewN n) (fun i _ => len - (intOf i).toNat)
      case atStart => exact ⟨0, Nat.zero_le _, rfl, 0, rfl⟩
      case round =>
        obtain ⟨k, hk, rfl, n, rfl⟩ := hrel
        by_cases hlt : k < len
        · have h1 := hc1 k hlt
          have h2 := hc2 k hlt
          go_wp2
          go_quiet (fail)
          go_wp2
          go_roundw
          case rel => exact ⟨k + 1, by omega, by go_num, n + nq, by first | rfl | rw [World.drewN_drewN]⟩
          case measure => simp [intOf]; omega
        · go_wp2
          go_ret
          exact ⟨rfl, n, rfl⟩


set_option maxHeartbeats 1000000 in
theorem to_i64 (v : Value) (zs : List Int) (w : World) (hl : zs.length ≤ 1048576) (h : Rds .i64 w v zs) :
    Calls Tryz.prog 23 #[v] w fun e w' => ∃ g c, e = .returned (.slice (some ⟨g, 0, none⟩) zs.length c) ∧ w'.ownsRow w.heap.size 2 1 (.slice (some ⟨g, 0, none⟩) zs.length c) zs.length (zs.map (Value.int .i64)) ∧ Below w.heap.size w w' := by
  rcases h.cases with ⟨rfl, a, cap, rfl⟩ | ⟨hn, b, off, cap, rfl, hb, hc⟩
  · have hmk : ∀ w : World, (Instr.makeSlice 27 (.int .i64 0) (.int .i64 0)).run Tryz.prog w = .ok (.slice (some ⟨w.heap.size, 0, none⟩) 0 0) (w.alloc (.cells #[] 2)) := fun _ => by kernel_rfl
    clear h hl
    go_enter Tryz.func23, Tryz.ntmps23
    go_wp2
    refine wp_loop_rounds 1 ?_
    rw [rounds_succ]
    go_wp2
    go_ret
    exact ⟨_, _, rfl, World.ownsRow_lit w #[] 0 (Nat.le_refl _) (by decide) rfl, (Below.refl _ _).alloc (Nat.le_refl _) _⟩
  · clear h
    obtain ⟨i0, hi, hz0, hz1, hz2⟩ := info_parts Tryz.infi64
    generalize hlen : zs.length = len at *
    have HLN : Hid _ := hlen
    clear hlen
    go_enter Tryz.func23, Tryz.ntmps23
    go_wp2_with (at_make; refine wpList_make_full _ rfl _ _ 27 rfl w.heap.size 2 i0 (.int .i64 0) 1 Tryz.underlying27 hi hz0 hz1 _ _ _ _ len rfl rfl (by omega) (by omega) ?_ ?_ (Nat.le_refl _) ?_)
    · rw [hz2]; omega
    · unfold maxLen; omega
    intro w1 hown1 hgrow1
    have hnx1 : Below w.heap.size w w1 := (Below.refl _ _).grown hgrow1 (Nat.le_refl _) (by simp)
    go_wp2
    go_loopw [4] (fun i wr => ∃ k : Nat, k ≤ len ∧ i = .int .i64 k ∧ (∃ xs : List Value, wr.ownsRow w.heap.size 2 1 (.slice (some ⟨w.heap.size, 0, none⟩) len len) len xs ∧ ∀ j, j < k → xs[j]? = some (.int .i64 (zs.getD j 0))) ∧ Below w.heap.size w wr)
      (fun i _ => len - (intOf i).toNat)
    case atStart => exact ⟨0, Nat.zero_le _, rfl, ⟨_, hown1, fun j hj => absurd hj (Nat.not_lt_zero _)⟩, hnx1⟩
    case round =>
      obtain ⟨k, hk, rfl, ⟨xs, hown, hxs⟩, hnx⟩ := hrel
      clear hown1 hgrow1 hnx1
      by_cases hlt : k < len
      · have hcx := (hnx.cell (p := ⟨b, off + k, none⟩) hb).trans (hc k hlt)
        have hlen : xs.length = len := by have := hown.1; omega
        have hold : wr.cell? ⟨w.heap.size, k, none⟩ = some (xs[k]'(by omega)) := by rw [hown.cellAt k (by omega)]; simp
        have hfz := hown.frozenAt k
        have R := hown.stored k (.int .i64 (zs.getD k 0))
        have HR : Hid _ := R
        have HX : Hid _ := hxs
        clear hxs R hown
        go_wp2
        go_roundw
        case rel =>
          refine ⟨k + 1, by omega, by go_num, ⟨_, HR.out.1, fun j hj => ?_⟩, hnx.setCell (by simp) _⟩
          rw [List.getElem?_set]
          by_cases hjk : k = j
          · subst hjk; simp; omega
          · rw [if_neg hjk]; exact HX.out j (by omega)
        case measure => simp [intOf]; omega
      · have HX : Hid _ := hxs
        have HO : Hid _ := hown
        clear hxs hown
        go_wp2
        go_ret
        have hl' := HLN.out
        obtain rfl := eq_map (k := .i64) (xs := xs) (zs := zs) (by rw [hl']; have := HO.out.1; omega) (fun j hj => HX.out j (by omega))
        exact ⟨_, _, rfl, HO.out, hnx⟩


set_option maxHeartbeats 1000000 in
theorem eq_i64 (v1 v2 : Value) (zs : List Int) (w : World) (hl : zs.length ≤ 2097152) (h1 : Rds .i64 w v1 zs) (h2 : Rds .i64 w v2 zs) :
    Calls Tryz.prog 32 #[v1, v2] w fun e w' => e = .returned (.bool true) ∧ ∃ n, w' = w.drewN n := by
  rcases h1.cases with ⟨rfl, a1, c1, rfl⟩ | ⟨hn, b1, off1, c1, rfl, _, hc1⟩
  · rcases h2.cases with ⟨_, a2, c2, rfl⟩ | ⟨hn, _⟩
    · clear h1 h2 hl
      go_enter Tryz.func32, Tryz.ntmps32
      go_wp2
      refine wp_loop_rounds 1 ?_
      rw [rounds_succ]
      go_wp2
      go_ret
      exact ⟨rfl, 0, rfl⟩
    · simp at hn
  · rcases h2.cases with ⟨rfl, _⟩ | ⟨_, b2, off2, c2, rfl, _, hc2⟩
    · simp at hn
    · clear h1 h2
      generalize hlen : zs.length = len at *
      clear hlen
      go_enter Tryz.func32, Tryz.ntmps32
      go_wp2
      go_loopw [5] (fun i wr => ∃ k : Nat, k ≤ len ∧ i = .int .i64 k ∧ ∃ n, wr = w.drewN n) (fun i _ => len - (intOf i).toNat)
      case atStart => exact ⟨0, Nat.zero_le _, rfl, 0, rfl⟩
      case round =>
        obtain ⟨k, hk, rfl, n, rfl⟩ := hrel
        by_cases hlt : k < len
        · have h1 := hc1 k hlt
          have h2 := hc2 k hlt
          go_wp2
          go_quiet (fail)
          go_wp2
          go_roundw
          case rel => exact ⟨k + 1, by omega, by go_num, n + nq, by first | rfl | rw [World.drewN_drewN]⟩
          case measure => simp [intOf]; omega
        · go_wp2
          go_ret
          exact ⟨rfl, n, rfl⟩

end Go.Proofs.YtabjcodpagjbjaaGreat

namespace Go.Proofs.YtabjcodpagjbjaaGreat
open Go.RowKit
set_option linter.unusedVariables false
set_option linter.unusedSectionVars false
set_option linter.unusedSimpArgs false
variable [Inhabited Pick]

theorem Row.mark {k : IntKind} {W : World} {g off i n : Nat} {zs : List Int} {q z : Int} (h : Row k W g off zs) (hl : zs.length = n) (hi : i < n) (hp : ∀ j, j < i → zs.getD j 0 = k.wrap (q + j)) (hz : z = k.wrap (q + i)) :
    ∃ ys : List Int, ys.length = n ∧ Row k (W.setCell ⟨g, off + i, none⟩ (.int k z)) g off ys ∧ ∀ j, j < i + 1 → ys.getD j 0 = k.wrap (q + j) := by
  refine ⟨zs.set i z, by simpa using hl, ⟨by simpa using h.lt, fun j hj => ?_, fun j => by simpa using h.froz j⟩, fun j hj => ?_⟩
  · simp only [List.length_set] at hj
    by_cases hji : i = j
    · subst hji
      rw [World.cell?_setCell_same _ _ _ (h.cell i (by omega))]
      simp [List.getD, hj]
    · rw [World.cell?_setCell_other _ _ _ _ (by intro e; simp only [Addr.mk.injEq] at e; omega), h.cell j hj]
      simp [List.getD, List.getElem?_set_ne hji]
  · by_cases hji : i = j
    · subst hji
      rw [← hz]
      simp [List.getD, hl, hi]
    · have := hp j (by omega)
      rw [← this]
      simp [List.getD, List.getElem?_set_ne hji]
theorem marks_of {k : IntKind} {q : Int} {n : Nat} {zs : List Int} (hl : zs.length = n) (h : ∀ j, j < n → zs.getD j 0 = k.wrap (q + j)) : zs = marks k q n := by
  apply List.ext_getElem?
  intro j
  by_cases hj : j < n
  · have := h j hj
    simp [List.getD, hl, hj] at this
    simp [marks, hj, hl, this]
  · simp [marks, hl, hj]


set_option maxHeartbeats 1000000 in
theorem mark_u32 (v : Value) (zs : List Int) (q : Int) (w : World) (hl : zs.length ≤ 2097152) (hq : 0 ≤ q ∧ q ≤ 1099511627776) (h : Lis .u32 w v zs) :
    Calls Tryz.prog 33 #[v, .int .i64 q] w fun e w' => e = .returned (.int .i64 (q + zs.length)) ∧ Lis .u32 w' v (marks .u32 q zs.length) ∧ Tcs (fun g => g ∈ blk v) w w' := by
  rcases h.cases with ⟨rfl, a, cap, rfl⟩ | ⟨hn, g, off, cap, rfl, hR⟩
  · clear h hl
    go_enter Tryz.func33, Tryz.ntmps33
    go_wp2
    refine wp_loop_rounds 1 ?_
    rw [rounds_succ]
    go_wp2
    go_ret
    exact ⟨by simp, Lis.nil _ _ _ _, Tcs.refl _ _⟩
  · clear h
    have hsl := blk_some ⟨g, off, none⟩ zs.length cap hn
    have HS : Hid _ := hsl
    clear hsl
    generalize hlen : zs.length = len at *
    have HLN : Hid _ := hlen
    clear hlen
    go_enter Tryz.func33, Tryz.ntmps33
    go_wp2
    go_loopw [1, 5] (fun kq i wr => ∃ k : Nat, k ≤ len ∧ i = .int .i64 k ∧ kq = .int .i64 (q + k) ∧ (∃ ys : List Int, ys.length = len ∧ Row .u32 wr g off ys ∧ ∀ j, j < k → ys.getD j 0 = IntKind.u32.wrap (q + j)) ∧ Tcs (fun x => x = g) w wr) (fun _ i _ => len - (intOf i).toNat)
    case atStart => exact ⟨0, Nat.zero_le _, rfl, by simp, ⟨zs, HLN.out, hR, fun j hj => absurd hj (Nat.not_lt_zero _)⟩, Tcs.refl _ _⟩
    case round =>
      obtain ⟨k, hk, rfl, rfl, ⟨ys, hly, hRy, hys⟩, hT⟩ := hrel
      clear hR
      have HY : Hid _ := hys
      have HR : Hid _ := hRy
      have HL : Hid _ := hly
      by_cases hlt : k < len
      · have hc := hRy.cell k (by omega)
        have hf := hRy.froz (off + k)
        clear hys hRy hly
        go_wp2
        go_roundw
        case rel =>
          obtain ⟨xs, h1, h2, h3⟩ := HR.out.mark (q := q) HL.out hlt HY.out (z := (q + k) % 4294967296) (by rw [IntKind.wrap_u32])
          exact ⟨k + 1, by omega, by go_num, by go_num, ⟨xs, h1, h2, h3⟩, hT.setCell rfl _⟩
        case measure => simp [intOf]; omega
      · clear hys hRy hly
        obtain rfl : k = len := by omega
        go_wp2
        go_ret
        have hl' := HLN.out
        subst hl'
        obtain rfl := marks_of HL.out HY.out
        refine ⟨rfl, ⟨_, cap, by simp, fun _ => ⟨g, off, rfl, HR.out⟩⟩, hT.mono fun x hx => ?_⟩
        rw [HS.out]
        simp [hx]


set_option maxHeartbeats 1000000 in
theorem mark_u8 (v : Value) (zs : List Int) (q : Int) (w : World) (hl : zs.length ≤ 2097152) (hq : 0 ≤ q ∧ q ≤ 1099511627776) (h : Lis .u8 w v zs) :
    Calls Tryz.prog 34 #[v, .int .i64 q] w fun e w' => e = .returned (.int .i64 (q + zs.length)) ∧ Lis .u8 w' v (marks .u8 q zs.length) ∧ Tcs (fun g => g ∈ blk v) w w' := by
  rcases h.cases with ⟨rfl, a, cap, rfl⟩ | ⟨hn, g, off, cap, rfl, hR⟩
  · clear h hl
    go_enter Tryz.func34, Tryz.ntmps34
    go_wp2
    refine wp_loop_rounds 1 ?_
    rw [rounds_succ]
    go_wp2
    go_ret
    exact ⟨by simp, Lis.nil _ _ _ _, Tcs.refl _ _⟩
  · clear h
    have hsl := blk_some ⟨g, off, none⟩ zs.length cap hn
    have HS : Hid _ := hsl
    clear hsl
    generalize hlen : zs.length = len at *
    have HLN : Hid _ := hlen
    clear hlen
    go_enter Tryz.func34, Tryz.ntmps34
    go_wp2
    go_loopw [1, 5] (fun kq i wr => ∃ k : Nat, k ≤ len ∧ i = .int .i64 k ∧ kq = .int .i64 (q + k) ∧ (∃ ys : List Int, ys.length = len ∧ Row .u8 wr g off ys ∧ ∀ j, j < k → ys.getD j 0 = IntKind.u8.wrap (q + j)) ∧ Tcs (fun x => x = g) w wr) (fun _ i _ => len - (intOf i).toNat)
    case atStart => exact ⟨0, Nat.zero_le _, rfl, by simp, ⟨zs, HLN.out, hR, fun j hj => absurd hj (Nat.not_lt_zero _)⟩, Tcs.refl _ _⟩
    case round =>
      obtain ⟨k, hk, rfl, rfl, ⟨ys, hly, hRy, hys⟩, hT⟩ := hrel
      clear hR
      have HY : Hid _ := hys
      have HR : Hid _ := hRy
      have HL : Hid _ := hly
      by_cases hlt : k < len
      · have hc := hRy.cell k (by omega)
        have hf := hRy.froz (off + k)
        clear hys hRy hly
        go_wp2
        go_roundw
        case rel =>
          obtain ⟨xs, h1, h2, h3⟩ := HR.out.mark (q := q) HL.out hlt HY.out (z := (q + k) % 256) (by rw [IntKind.wrap_u8])
          exact ⟨k + 1, by omega, by go_num, by go_num, ⟨xs, h1, h2, h3⟩, hT.setCell rfl _⟩
        case measure => simp [intOf]; omega
      · clear hys hRy hly
        obtain rfl : k = len := by omega
        go_wp2
        go_ret
        have hl' := HLN.out
        subst hl'
        obtain rfl := marks_of HL.out HY.out
        refine ⟨rfl, ⟨_, cap, by simp, fun _ => ⟨g, off, rfl, HR.out⟩⟩, hT.mono fun x hx => ?_⟩
        rw [HS.out]
        simp [hx]


set_option maxHeartbeats 1000000 in
theorem mark_i64 (v : Value) (zs : List Int) (q : Int) (w : World) (hl : zs.length ≤ 2097152) (hq : 0 ≤ q ∧ q ≤ 1099511627776) (h : Lis .i64 w v zs) :
    Calls Tryz.prog 35 #[v, .int .i64 q] w fun e w' => e = .returned (.int .i64 (q + zs.length)) ∧ Lis .i64 w' v (marks .i64 q zs.length) ∧ Tcs (fun g => g ∈ blk v) w w' := by
  rcases h.cases with ⟨rfl, a, cap, rfl⟩ | ⟨hn, g, off, cap, rfl, hR⟩
  · clear h hl
    go_enter Tryz.func35, Tryz.ntmps35
    go_wp2
    refine wp_loop_rounds 1 ?_
    rw [rounds_succ]
    go_wp2
    go_ret
    exact ⟨by simp, Lis.nil _ _ _ _, Tcs.refl _ _⟩
  · clear h
    have hsl := blk_some ⟨g, off, none⟩ zs.length cap hn
    have HS : Hid _ := hsl
    clear hsl
    generalize hlen : zs.length = len at *
    have HLN : Hid _ := hlen
    clear hlen
    go_enter Tryz.func35, Tryz.ntmps35
    go_wp2
    go_loopw [1, 5] (fun kq i wr => ∃ k : Nat, k ≤ len ∧ i = .int .i64 k ∧ kq = .int .i64 (q + k) ∧ (∃ ys : List Int, ys.length = len ∧ Row .i64 wr g off ys ∧ ∀ j, j < k → ys.getD j 0 = IntKind.i64.wrap (q + j)) ∧ Tcs (fun x => x = g) w wr) (fun _ i _ => len - (intOf i).toNat)
    case atStart => exact ⟨0, Nat.zero_le _, rfl, by simp, ⟨zs, HLN.out, hR, fun j hj => absurd hj (Nat.not_lt_zero _)⟩, Tcs.refl _ _⟩
    case round =>
      obtain ⟨k, hk, rfl, rfl, ⟨ys, hly, hRy, hys⟩, hT⟩ := hrel
      clear hR
      have HY : Hid _ := hys
      have HR : Hid _ := hRy
      have HL : Hid _ := hly
      by_cases hlt : k < len
      · have hc := hRy.cell k (by omega)
        have hf := hRy.froz (off + k)
        clear hys hRy hly
        go_wp2
        go_roundw
        case rel =>
          obtain ⟨xs, h1, h2, h3⟩ := HR.out.mark (q := q) HL.out hlt HY.out (z := q + k) (by rw [IntKind.wrap_i64]; omega)
          exact ⟨k + 1, by omega, by go_num, by go_num, ⟨xs, h1, h2, h3⟩, hT.setCell rfl _⟩
        case measure => simp [intOf]; omega
      · clear hys hRy hly
        obtain rfl : k = len := by omega
        go_wp2
        go_ret
        have hl' := HLN.out
        subst hl'
        obtain rfl := marks_of HL.out HY.out
        refine ⟨rfl, ⟨_, cap, by simp, fun _ => ⟨g, off, rfl, HR.out⟩⟩, hT.mono fun x hx => ?_⟩
        rw [HS.out]
        simp [hx]


set_option maxHeartbeats 1000000 in
theorem held_u32 (v : Value) (len : Nat) (q : Int) (w : World) (hl : len ≤ 2097152) (hq : 0 ≤ q ∧ q ≤ 1099511627776) (h : Lis .u32 w v (marks .u32 q len)) :
    Calls Tryz.prog 36 #[v, .int .i64 q] w fun e w' => e = .returned (.int .i64 (q + len)) ∧ ∃ n, w' = w.drewN n := by
  rcases h.rds.cases with ⟨h0, a, cap, rfl⟩ | ⟨hn, g, off, cap, rfl, _, hc⟩
  · obtain rfl : len = 0 := by have := congrArg List.length h0; simpa using this
    clear h hl
    go_enter Tryz.func36, Tryz.ntmps36
    go_wp2
    refine wp_loop_rounds 1 ?_
    rw [rounds_succ]
    go_wp2
    go_ret
    exact ⟨by simp, 0, rfl⟩
  · have hcc : ∀ k : Nat, k < len → w.cell? ⟨g, off + k, none⟩ = some (.int .u32 ((q + k) % 4294967296)) := fun k hk => by
      have h1 := hc k (by simpa using hk)
      have h2 : (marks .u32 q len).getD k 0 = (q + k) % 4294967296 := by rw [marks_getD _ _ _ _ hk]; rw [IntKind.wrap_u32]
      rw [h2] at h1
      exact h1
    simp only [marks_length] at hn ⊢
    clear h hc
    go_enter Tryz.func36, Tryz.ntmps36
    go_wp2
    go_loopw [1, 5] (fun kq i wr => ∃ k : Nat, k ≤ len ∧ i = .int .i64 k ∧ kq = .int .i64 (q + k) ∧ ∃ n, wr = w.drewN n) (fun _ i _ => len - (intOf i).toNat)
    case atStart => exact ⟨0, Nat.zero_le _, rfl, by simp, 0, rfl⟩
    case round =>
      obtain ⟨k, hk, rfl, rfl, n, rfl⟩ := hrel
      by_cases hlt : k < len
      · have hx := hcc k hlt
        go_wp2
        go_roundw
        case rel => exact ⟨k + 1, by omega, by go_num, by go_num, n, rfl⟩
        case measure => simp [intOf]; omega
      · obtain rfl : k = len := by omega
        go_wp2
        go_ret
        exact ⟨rfl, n, rfl⟩


set_option maxHeartbeats 1000000 in
theorem held_u8 (v : Value) (len : Nat) (q : Int) (w : World) (hl : len ≤ 2097152) (hq : 0 ≤ q ∧ q ≤ 1099511627776) (h : Lis .u8 w v (marks .u8 q len)) :
    Calls Tryz.prog 37 #[v, .int .i64 q] w fun e w' => e = .returned (.int .i64 (q + len)) ∧ ∃ n, w' = w.drewN n := by
  rcases h.rds.cases with ⟨h0, a, cap, rfl⟩ | ⟨hn, g, off, cap, rfl, _, hc⟩
  · obtain rfl : len = 0 := by have := congrArg List.length h0; simpa using this
    clear h hl
    go_enter Tryz.func37, Tryz.ntmps37
    go_wp2
    refine wp_loop_rounds 1 ?_
    rw [rounds_succ]
    go_wp2
    go_ret
    exact ⟨by simp, 0, rfl⟩
  · have hcc : ∀ k : Nat, k < len → w.cell? ⟨g, off + k, none⟩ = some (.int .u8 ((q + k) % 256)) := fun k hk => by
      have h1 := hc k (by simpa using hk)
      have h2 : (marks .u8 q len).getD k 0 = (q + k) % 256 := by rw [marks_getD _ _ _ _ hk]; rw [IntKind.wrap_u8]
      rw [h2] at h1
      exact h1
    simp only [marks_length] at hn ⊢
    clear h hc
    go_enter Tryz.func37, Tryz.ntmps37
    go_wp2
    go_loopw [1, 5] (fun kq i wr => ∃ k : Nat, k ≤ len ∧ i = .int .i64 k ∧ kq = .int .i64 (q + k) ∧ ∃ n, wr = w.drewN n) (fun _ i _ => len - (intOf i).toNat)
    case atStart => exact ⟨0, Nat.zero_le _, rfl, by simp, 0, rfl⟩
    case round =>
      obtain ⟨k, hk, rfl, rfl, n, rfl⟩ := hrel
      by_cases hlt : k < len
      · have hx := hcc k hlt
        go_wp2
        go_roundw
        case rel => exact ⟨k + 1, by omega, by go_num, by go_num, n, rfl⟩
        case measure => simp [intOf]; omega
      · obtain rfl : k = len := by omega
        go_wp2
        go_ret
        exact ⟨rfl, n, rfl⟩


set_option maxHeartbeats 1000000 in
theorem held_i64 (v : Value) (len : Nat) (q : Int) (w : World) (hl : len ≤ 2097152) (hq : 0 ≤ q ∧ q ≤ 1099511627776) (h : Lis .i64 w v (marks .i64 q len)) :
    Calls Tryz.prog 38 #[v, .int .i64 q] w fun e w' => e = .returned (.int .i64 (q + len)) ∧ ∃ n, w' = w.drewN n := by
  rcases h.rds.cases with ⟨h0, a, cap, rfl⟩ | ⟨hn, g, off, cap, rfl, _, hc⟩
  · obtain rfl : len = 0 := by have := congrArg List.length h0; simpa using this
    clear h hl
    go_enter Tryz.func38, Tryz.ntmps38
    go_wp2
    refine wp_loop_rounds 1 ?_
    rw [rounds_succ]
    go_wp2
    go_ret
    exact ⟨by simp, 0, rfl⟩
  · have hcc : ∀ k : Nat, k < len → w.cell? ⟨g, off + k, none⟩ = some (.int .i64 (q + k)) := fun k hk => by
      have h1 := hc k (by simpa using hk)
      have h2 : (marks .i64 q len).getD k 0 = q + k := by rw [marks_getD _ _ _ _ hk]; rw [IntKind.wrap_i64]; omega
      rw [h2] at h1
      exact h1
    simp only [marks_length] at hn ⊢
    clear h hc
    go_enter Tryz.func38, Tryz.ntmps38
    go_wp2
    go_loopw [1, 5] (fun kq i wr => ∃ k : Nat, k ≤ len ∧ i = .int .i64 k ∧ kq = .int .i64 (q + k) ∧ ∃ n, wr = w.drewN n) (fun _ i _ => len - (intOf i).toNat)
    case atStart => exact ⟨0, Nat.zero_le _, rfl, by simp, 0, rfl⟩
    case round =>
      obtain ⟨k, hk, rfl, rfl, n, rfl⟩ := hrel
      by_cases hlt : k < len
      · have hx := hcc k hlt
        go_wp2
        go_roundw
        case rel => exact ⟨k + 1, by omega, by go_num, by go_num, n, rfl⟩
        case measure => simp [intOf]; omega
      · obtain rfl : k = len := by omega
        go_wp2
        go_ret
        exact ⟨rfl, n, rfl⟩

end Go.Proofs.YtabjcodpagjbjaaGreat
