import Derived.Deep.Cut
import Derived.Test.YtabjcodpagjbjaaP41
import Derived.Test.YtabjcodpagjbjaaP39
import Derived.Test.YtabjcodpagjbjaaP34
import Derived.Test.YtabjcodpagjbjaaP38
import Derived.Deep.RegionHeld3
namespace Go.Proofs.Ytabjcodpagjbjaa
open Go.RowKit
set_option linter.unusedVariables false
set_option linter.unusedSectionVars false
set_option linter.unusedSimpArgs false
variable [Inhabited Pick]

set_option maxRecDepth 8000 in
set_option maxHeartbeats 1000000 in
theorem run_i_no (a : Option Addr) (len cap : Nat) (d bd : Int) (v : Value) (zs codes : List Int) (w : World) (hl : len ≤ 1048576) (hz : zs.length ≤ 2097152) (h : Lis .i64 w v zs) (hc : Lis .u32 w (.slice a len cap) codes) (hcu : ∀ j, j < codes.length → 0 ≤ codes.getD j 0 ∧ codes.getD j 0 ≤ 4294967295) (steps : Int) (hv : (vimg len d bd && okIn zs) = false) :
    Calls Try.prog 7 #[.agg #[.slice a len cap, .int .i64 d, .int .i64 bd], v, .int .i64 steps] w fun e w' => ∃ u, e = .returned u ∧ CpuAt w' w.heap.size u zeroM ∧ Below w.heap.size w w' := by
  have B2 : Below w.heap.size w ((w.alloc (.cells #[.slice a len cap, .int .i64 d, .int .i64 bd] 25)).alloc (.cells #[.slice none 0 0, .int .u32 0, .slice none 0 0, .slice none 0 0, .slice none 0 0, .slice none 0 0, .int .u32 0, .int .i64 0] 32)) := ((Below.refl _ _).alloc (Nat.le_refl _) _).alloc (by simp) _
  have HBO := boot_i a len cap d bd v zs ((w.alloc (.cells #[.slice a len cap, .int .i64 d, .int .i64 bd] 25)).alloc (.cells #[.slice none 0 0, .int .u32 0, .slice none 0 0, .slice none 0 0, .slice none 0 0, .slice none 0 0, .int .u32 0, .int .i64 0] 32)) hl hz (h.below B2)
  have hcod := hc.below B2
  have hll := lis_len hc
  have hcb : ∀ g ∈ blk (.slice a len cap), g < w.heap.size := hc.lt
  have hbm : bootM len d bd zs = zeroM := by unfold bootM; rw [hv]; rfl
  rw [hbm] at HBO
  have HQ : Hid _ := And.intro HBO (And.intro hcod (And.intro B2 hcb))
  clear HBO hcod B2 h hc hz hcu hl hcb
  clear hv hbm hll
  go_enter Try.func7, Try.ntmps7
  go_wp2_with fail
  refine HQ.out.1.mono ?_
  rintro e w1 ⟨u1, rfl, hA, hb1⟩
  obtain ⟨r, dd, s, i, o, rfl, hr, hd, hs, hi, ho, hnd, hB, hk⟩ := hA
  obtain ⟨e1, f1, rfl⟩ := hr.len0
  obtain ⟨e2, f2, rfl⟩ := hd.len0
  obtain ⟨e3, f3, rfl⟩ := hs.len0
  obtain ⟨e4, f4, rfl⟩ := hi.len0
  obtain ⟨e5, f5, rfl⟩ := own_slice ho
  rw [show zeroM.regs.length = 0 from rfl, show zeroM.data.length = 0 from rfl, show zeroM.stack.length = 0 from rfl, show zeroM.inn.length = 0 from rfl, show zeroM.out.length = 0 from rfl, show zeroM.pc = 0 from rfl, show zeroM.low = 0 from rfl, show zeroM.st = 0 from rfl]
  have zz := hb1.size
  simp only [World.size_alloc] at zz
  have R1 : w1.heap[w.heap.size + 1]? = some (.cells #[.slice none 0 0, .int .u32 0, .slice none 0 0, .slice none 0 0, .slice none 0 0, .slice none 0 0, .int .u32 0, .int .i64 0] 32) := by
    rw [hb1.block _ (by simp)]
    have := heap_alloc_new (w.alloc (.cells #[.slice a len cap, .int .i64 d, .int .i64 bd] 25)) (.cells #[.slice none 0 0, .int .u32 0, .slice none 0 0, .slice none 0 0, .slice none 0 0, .slice none 0 0, .int .u32 0, .int .i64 0] 32)
    simpa only [World.size_alloc] using this
  have BW1 : Below w.heap.size w w1 := HQ.out.2.2.1.trans (hb1.mono (by simp; omega))
  have HV : Hid _ := And.intro R1 BW1
  clear R1 BW1 hb1 HQ hr hd hs hi ho hnd hB hk
  dsimp only
  go_upto_region 2 with fail
  obtain ⟨W, hW⟩ : ∃ W, W = w1.alloc (.cells #[.slice e1 0 f1, .int .u32 0, .slice e2 0 f2, .slice e3 0 f3, .slice e4 0 f4, .slice e5 0 f5, .int .u32 0, .int .i64 0] 32) := ⟨_, rfl⟩
  rw [← hW]
  have X1 : W.heap[w1.heap.size]? = some (.cells #[.slice e1 0 f1, .int .u32 0, .slice e2 0 f2, .slice e3 0 f3, .slice e4 0 f4, .slice e5 0 f5, .int .u32 0, .int .i64 0] 32) := by rw [hW]; exact heap_alloc_new w1 _
  have AW : Below w1.heap.size w1 W := by rw [hW]; exact (Below.refl _ _).alloc (Nat.le_refl _) _
  have R2 := (AW.block _ (by omega)).trans HV.out.1
  have B9 := Bx.of_heap X1
  have RB := Bx.of_heap R2
  obtain ⟨t0, t1, t2, t3, t4, t5, t6, t7, tf⟩ := id B9
  obtain ⟨z0, z1, z2, z3, z4, z5, z6, z7, zf⟩ := id RB
  have HW : Hid _ := HV.out.2.trans (AW.mono (by omega))
  clear X1 AW hW B9 RB R2
  go_wp2
  refine bodyPost_ret (v := .agg #[.slice none 0 0, .int .u32 0, .slice none 0 0, .slice none 0 0, .slice none 0 0, .slice none 0 0, .int .u32 0, .int .i64 0]) (by simp [results, Try.results7, go_sem, z0, z1, z2, z3, z4, z5, z6, z7]) rfl ?_
  exact ⟨_, rfl, cpu_zero _ _, ((Tcs.refl (fun k => k = w.heap.size + 1) _).set8 _ rfl (.slice none 0 0) (.int .u32 0) (.slice none 0 0) (.slice none 0 0) (.slice none 0 0) (.slice none 0 0) (.int .u32 0) (.int .i64 0)).below HW.out HW.out.size (by rintro k rfl; omega)⟩


set_option maxRecDepth 8000 in
set_option maxHeartbeats 1000000 in
theorem run_i_out1 (a : Option Addr) (len cap : Nat) (d bd : Int) (v : Value) (zs codes : List Int) (w : World) (hl : len ≤ 1048576) (hz : zs.length ≤ 2097152) (h : Lis .i64 w v zs) (hc : Lis .u32 w (.slice a len cap) codes) (hcu : ∀ j, j < codes.length → 0 ≤ codes.getD j 0 ∧ codes.getD j 0 ≤ 4294967295) (steps : Int) (hst : steps < 0) (hv : vimg len d bd = true) (ho : okIn zs = true) :
    Calls Try.prog 7 #[.agg #[.slice a len cap, .int .i64 d, .int .i64 bd], v, .int .i64 steps] w fun e w' => ∃ u, e = .returned u ∧ CpuAt w' w.heap.size u zeroM ∧ Below w.heap.size w w' := by
  have B2 : Below w.heap.size w ((w.alloc (.cells #[.slice a len cap, .int .i64 d, .int .i64 bd] 25)).alloc (.cells #[.slice none 0 0, .int .u32 0, .slice none 0 0, .slice none 0 0, .slice none 0 0, .slice none 0 0, .int .u32 0, .int .i64 0] 32)) := ((Below.refl _ _).alloc (Nat.le_refl _) _).alloc (by simp) _
  have HBO := boot_i a len cap d bd v zs ((w.alloc (.cells #[.slice a len cap, .int .i64 d, .int .i64 bd] 25)).alloc (.cells #[.slice none 0 0, .int .u32 0, .slice none 0 0, .slice none 0 0, .slice none 0 0, .slice none 0 0, .int .u32 0, .int .i64 0] 32)) hl hz (h.below B2)
  have hcod := hc.below B2
  have hll := lis_len hc
  have hcb : ∀ g ∈ blk (.slice a len cap), g < w.heap.size := hc.lt
  obtain ⟨hG0, hst9, hmb0, hl2⟩ := boot_good len d bd zs hv ho
  generalize bootM len d bd zs = c0 at *
  have HQ : Hid _ := And.intro HBO (And.intro hcod (And.intro B2 hcb))
  clear HBO hcod B2 h hc hz hcu hl hcb
  have HG : Hid _ := hG0
  clear hG0 hst9 hmb0 hl2 hv ho hll
  go_enter Try.func7, Try.ntmps7
  go_wp2_with fail
  refine HQ.out.1.mono ?_
  rintro e w1 ⟨u1, rfl, hA, hb1⟩
  obtain ⟨L, cv, hLB⟩ := hA.toV
  obtain ⟨g2, o2, q1, m2, m3, m4, m5, p2, q2, p3, q3, p4, q4, p5, q5, rfl, hbk2⟩ := cv.shape32 HG.out.r32
  have zz := hb1.size
  simp only [World.size_alloc] at zz
  have R1 : w1.heap[w.heap.size + 1]? = some (.cells #[.slice none 0 0, .int .u32 0, .slice none 0 0, .slice none 0 0, .slice none 0 0, .slice none 0 0, .int .u32 0, .int .i64 0] 32) := by
    rw [hb1.block _ (by simp)]
    have := heap_alloc_new (w.alloc (.cells #[.slice a len cap, .int .i64 d, .int .i64 bd] 25)) (.cells #[.slice none 0 0, .int .u32 0, .slice none 0 0, .slice none 0 0, .slice none 0 0, .slice none 0 0, .int .u32 0, .int .i64 0] 32)
    simpa only [World.size_alloc] using this
  have BW1 : Below w.heap.size w w1 := HQ.out.2.2.1.trans (hb1.mono (by simp; omega))
  have HV : Hid _ := And.intro R1 BW1
  clear R1 BW1 hA hb1 HQ cv hLB hbk2
  dsimp only
  go_upto_region 2 with fail
  obtain ⟨W, hW⟩ : ∃ W, W = w1.alloc (.cells #[.slice (some ⟨g2, o2, none⟩) 32 q1, .int .u32 c0.pc, .slice p2 m2 q2, .slice p3 m3 q3, .slice p4 m4 q4, .slice p5 m5 q5, .int .u32 c0.low, .int .i64 c0.st] 32) := ⟨_, rfl⟩
  rw [← hW]
  have X1 : W.heap[w1.heap.size]? = some (.cells #[.slice (some ⟨g2, o2, none⟩) 32 q1, .int .u32 c0.pc, .slice p2 m2 q2, .slice p3 m3 q3, .slice p4 m4 q4, .slice p5 m5 q5, .int .u32 c0.low, .int .i64 c0.st] 32) := by rw [hW]; exact heap_alloc_new w1 _
  have AW : Below w1.heap.size w1 W := by rw [hW]; exact (Below.refl _ _).alloc (Nat.le_refl _) _
  have R2 := (AW.block _ (by omega)).trans HV.out.1
  have B9 := Bx.of_heap X1
  have RB := Bx.of_heap R2
  obtain ⟨t0, t1, t2, t3, t4, t5, t6, t7, tf⟩ := id B9
  obtain ⟨z0, z1, z2, z3, z4, z5, z6, z7, zf⟩ := id RB
  have HW : Hid _ := HV.out.2.trans (AW.mono (by omega))
  clear X1 AW hW B9 RB R2
  go_wp2
  refine bodyPost_ret (v := .agg #[.slice none 0 0, .int .u32 0, .slice none 0 0, .slice none 0 0, .slice none 0 0, .slice none 0 0, .int .u32 0, .int .i64 0]) (by simp [results, Try.results7, go_sem, z0, z1, z2, z3, z4, z5, z6, z7]) rfl ?_
  exact ⟨_, rfl, cpu_zero _ _, ((Tcs.refl (fun k => k = w.heap.size + 1) _).set8 _ rfl (.slice none 0 0) (.int .u32 0) (.slice none 0 0) (.slice none 0 0) (.slice none 0 0) (.slice none 0 0) (.int .u32 0) (.int .i64 0)).below HW.out HW.out.size (by rintro k rfl; omega)⟩


set_option maxRecDepth 8000 in
set_option maxHeartbeats 1000000 in
theorem run_i_out2 (a : Option Addr) (len cap : Nat) (d bd : Int) (v : Value) (zs codes : List Int) (w : World) (hl : len ≤ 1048576) (hz : zs.length ≤ 2097152) (h : Lis .i64 w v zs) (hc : Lis .u32 w (.slice a len cap) codes) (hcu : ∀ j, j < codes.length → 0 ≤ codes.getD j 0 ∧ codes.getD j 0 ≤ 4294967295) (steps : Int) (hst0 : 0 ≤ steps) (hst : 1000000 < steps) (hv : vimg len d bd = true) (ho : okIn zs = true) :
    Calls Try.prog 7 #[.agg #[.slice a len cap, .int .i64 d, .int .i64 bd], v, .int .i64 steps] w fun e w' => ∃ u, e = .returned u ∧ CpuAt w' w.heap.size u zeroM ∧ Below w.heap.size w w' := by
  have B2 : Below w.heap.size w ((w.alloc (.cells #[.slice a len cap, .int .i64 d, .int .i64 bd] 25)).alloc (.cells #[.slice none 0 0, .int .u32 0, .slice none 0 0, .slice none 0 0, .slice none 0 0, .slice none 0 0, .int .u32 0, .int .i64 0] 32)) := ((Below.refl _ _).alloc (Nat.le_refl _) _).alloc (by simp) _
  have HBO := boot_i a len cap d bd v zs ((w.alloc (.cells #[.slice a len cap, .int .i64 d, .int .i64 bd] 25)).alloc (.cells #[.slice none 0 0, .int .u32 0, .slice none 0 0, .slice none 0 0, .slice none 0 0, .slice none 0 0, .int .u32 0, .int .i64 0] 32)) hl hz (h.below B2)
  have hcod := hc.below B2
  have hll := lis_len hc
  have hcb : ∀ g ∈ blk (.slice a len cap), g < w.heap.size := hc.lt
  obtain ⟨hG0, hst9, hmb0, hl2⟩ := boot_good len d bd zs hv ho
  generalize bootM len d bd zs = c0 at *
  have HQ : Hid _ := And.intro HBO (And.intro hcod (And.intro B2 hcb))
  clear HBO hcod B2 h hc hz hcu hl hcb
  have HG : Hid _ := hG0
  clear hG0 hst9 hmb0 hl2 hv ho hll
  go_enter Try.func7, Try.ntmps7
  go_wp2_with fail
  refine HQ.out.1.mono ?_
  rintro e w1 ⟨u1, rfl, hA, hb1⟩
  obtain ⟨L, cv, hLB⟩ := hA.toV
  obtain ⟨g2, o2, q1, m2, m3, m4, m5, p2, q2, p3, q3, p4, q4, p5, q5, rfl, hbk2⟩ := cv.shape32 HG.out.r32
  have zz := hb1.size
  simp only [World.size_alloc] at zz
  have R1 : w1.heap[w.heap.size + 1]? = some (.cells #[.slice none 0 0, .int .u32 0, .slice none 0 0, .slice none 0 0, .slice none 0 0, .slice none 0 0, .int .u32 0, .int .i64 0] 32) := by
    rw [hb1.block _ (by simp)]
    have := heap_alloc_new (w.alloc (.cells #[.slice a len cap, .int .i64 d, .int .i64 bd] 25)) (.cells #[.slice none 0 0, .int .u32 0, .slice none 0 0, .slice none 0 0, .slice none 0 0, .slice none 0 0, .int .u32 0, .int .i64 0] 32)
    simpa only [World.size_alloc] using this
  have BW1 : Below w.heap.size w w1 := HQ.out.2.2.1.trans (hb1.mono (by simp; omega))
  have HV : Hid _ := And.intro R1 BW1
  clear R1 BW1 hA hb1 HQ cv hLB hbk2
  dsimp only
  go_upto_region 2 with fail
  obtain ⟨W, hW⟩ : ∃ W, W = w1.alloc (.cells #[.slice (some ⟨g2, o2, none⟩) 32 q1, .int .u32 c0.pc, .slice p2 m2 q2, .slice p3 m3 q3, .slice p4 m4 q4, .slice p5 m5 q5, .int .u32 c0.low, .int .i64 c0.st] 32) := ⟨_, rfl⟩
  rw [← hW]
  have X1 : W.heap[w1.heap.size]? = some (.cells #[.slice (some ⟨g2, o2, none⟩) 32 q1, .int .u32 c0.pc, .slice p2 m2 q2, .slice p3 m3 q3, .slice p4 m4 q4, .slice p5 m5 q5, .int .u32 c0.low, .int .i64 c0.st] 32) := by rw [hW]; exact heap_alloc_new w1 _
  have AW : Below w1.heap.size w1 W := by rw [hW]; exact (Below.refl _ _).alloc (Nat.le_refl _) _
  have R2 := (AW.block _ (by omega)).trans HV.out.1
  have B9 := Bx.of_heap X1
  have RB := Bx.of_heap R2
  obtain ⟨t0, t1, t2, t3, t4, t5, t6, t7, tf⟩ := id B9
  obtain ⟨z0, z1, z2, z3, z4, z5, z6, z7, zf⟩ := id RB
  have HW : Hid _ := HV.out.2.trans (AW.mono (by omega))
  clear X1 AW hW B9 RB R2
  go_wp2
  refine bodyPost_ret (v := .agg #[.slice none 0 0, .int .u32 0, .slice none 0 0, .slice none 0 0, .slice none 0 0, .slice none 0 0, .int .u32 0, .int .i64 0]) (by simp [results, Try.results7, go_sem, z0, z1, z2, z3, z4, z5, z6, z7]) rfl ?_
  exact ⟨_, rfl, cpu_zero _ _, ((Tcs.refl (fun k => k = w.heap.size + 1) _).set8 _ rfl (.slice none 0 0) (.int .u32 0) (.slice none 0 0) (.slice none 0 0) (.slice none 0 0) (.slice none 0 0) (.int .u32 0) (.int .i64 0)).below HW.out HW.out.size (by rintro k rfl; omega)⟩


theorem run_i (a : Option Addr) (len cap : Nat) (d bd : Int) (v : Value) (zs codes : List Int) (w : World) (hl : len ≤ 1048576) (hz : zs.length ≤ 2097152) (h : Lis .i64 w v zs) (hc : Lis .u32 w (.slice a len cap) codes) (hcu : ∀ j, j < codes.length → 0 ≤ codes.getD j 0 ∧ codes.getD j 0 ≤ 4294967295) (steps : Int) :
    Calls Try.prog 7 #[.agg #[.slice a len cap, .int .i64 d, .int .i64 bd], v, .int .i64 steps] w fun e w' => ∃ u, e = .returned u ∧ CpuAt w' w.heap.size u (runRes len d bd zs codes steps) ∧ Below w.heap.size w w' := by
  unfold runRes
  split
  · rename_i hv
    simp only [Bool.and_eq_true] at hv
    split
    · rename_i hs
      unfold stepsOk at hs
      simp only [decide_eq_true_eq] at hs
      obtain ⟨N, rfl⟩ := Int.eq_ofNat_of_zero_le hs.1
      exact run_i_yes a len cap d bd v zs codes w hl hz h hc hcu N (by omega) hv.1 hv.2
    · rename_i hs
      unfold stepsOk at hs
      simp only [decide_eq_true_eq] at hs
      by_cases h1 : steps < 0
      · exact run_i_out1 a len cap d bd v zs codes w hl hz h hc hcu steps h1 hv.1 hv.2
      · exact run_i_out2 a len cap d bd v zs codes w hl hz h hc hcu steps (by omega) (by omega) hv.1 hv.2
  · rename_i hv
    exact run_i_no a len cap d bd v zs codes w hl hz h hc hcu steps (by simpa using hv)

end Go.Proofs.Ytabjcodpagjbjaa

namespace Go.Proofs.Ytabjcodpagjbjaa
open Go.RowKit
set_option linter.unusedVariables false
set_option linter.unusedSectionVars false
set_option linter.unusedSimpArgs false
variable [Inhabited Pick]
/-- Three cells of a box. -/
structure M3 (w : World) (g : Nat) (x0 x1 x2 : Value) : Prop where
  c0 : w.cell? ⟨g, 0, none⟩ = some x0
  c1 : w.cell? ⟨g, 1, none⟩ = some x1
  c2 : w.cell? ⟨g, 2, none⟩ = some x2
theorem M3.keep {w w' : World} {g : Nat} {x0 x1 x2 : Value} (h : M3 w g x0 x1 x2) (hb : w'.heap[g]? = w.heap[g]?) : M3 w' g x0 x1 x2 := by
  have k := fun j => World.cell?_of_block (w := w) (w' := w') (a := ⟨g, j, none⟩) hb
  exact ⟨(k 0).trans h.c0, (k 1).trans h.c1, (k 2).trans h.c2⟩
theorem M3.lt {w : World} {g : Nat} {x0 x1 x2 : Value} (h : M3 w g x0 x1 x2) : g < w.heap.size := World.block_lt_of_cell? _ _ h.c0
theorem M3.below {w w' : World} {g : Nat} {x0 x1 x2 : Value} (h : M3 w g x0 x1 x2) (hb : Below w.heap.size w w') : M3 w' g x0 x1 x2 := h.keep (hb.block g h.lt)
theorem M3.of_heap {w : World} {g : Nat} {t : TypeId} {x0 x1 x2 : Value} (h : w.heap[g]? = some (.cells #[x0, x1, x2] t)) : M3 w g x0 x1 x2 := by
  constructor
  all_goals (simp [World.cell?, h]; done)
def CuOk (codes : List Int) : Prop := ∀ j, j < codes.length → 0 ≤ codes.getD j 0 ∧ codes.getD j 0 ≤ 4294967295
theorem rr_good (n : Nat) (d b : Int) (zs codes : List Int) (s : Int) (hl : n = codes.length) (hcu : CuOk codes) (hv : (vimg n d b && okIn zs) = true) (hs : stepsOk s = true) : runRes n d b zs codes s = runM codes b (bootM n d b zs) s.toNat ∧ Good (runRes n d b zs codes s) := by
  have e : runRes n d b zs codes s = runM codes b (bootM n d b zs) s.toNat := by
    unfold runRes
    rw [if_pos hv, if_pos hs]
  simp only [Bool.and_eq_true] at hv
  obtain ⟨hG, hst, hmb, hn⟩ := boot_good n d b zs hv.1 hv.2
  exact ⟨e, by rw [e]; exact (runM_good codes b (bootM n d b zs) hG hmb ⟨by omega, hcu⟩ s.toNat).1⟩
theorem rr_no (n : Nat) (d b : Int) (zs codes : List Int) (s : Int) (hv : ¬ (vimg n d b && okIn zs) = true) : runRes n d b zs codes s = zeroM := by
  unfold runRes
  rw [if_neg hv]
theorem bm_no (n : Nat) (d b : Int) (zs : List Int) (hv : ¬ (vimg n d b && okIn zs) = true) : bootM n d b zs = zeroM := by
  unfold bootM
  rw [if_neg hv]
theorem bm_yes (n : Nat) (d b : Int) (zs : List Int) (hv : (vimg n d b && okIn zs) = true) : (bootM n d b zs).regs.length = 32 := by
  unfold bootM
  rw [if_pos hv]
  simp [regs0]
theorem zero_small : Small zeroM := by refine ⟨?_, ?_, ?_, ?_, ?_⟩ <;> simp [zeroM]
theorem good_small {c : Mc} (hg : Good c) : Small c := by
  have h1 := hg.r32
  have h2 := hg.dl
  have h3 := hg.sl
  have h4 := hg.il
  have h5 := hg.ol
  refine ⟨?_, ?_, ?_, ?_, ?_⟩ <;> omega
theorem rr_small (n : Nat) (d b : Int) (zs codes : List Int) (s : Int) (hl : n = codes.length) (hcu : CuOk codes) : Small (runRes n d b zs codes s) := by
  by_cases hv : (vimg n d b && okIn zs) = true
  · by_cases hs : stepsOk s = true
    · exact good_small (rr_good n d b zs codes s hl hcu hv hs).2
    · unfold runRes
      rw [if_pos hv, if_neg hs]
      exact zero_small
  · rw [rr_no n d b zs codes s hv]
    exact zero_small
theorem rr_low (n : Nat) (d b : Int) (zs codes : List Int) (s : Int) (hl : n = codes.length) (hcu : CuOk codes) (hv : (vimg n d b && okIn zs) = true) (hs : stepsOk s = true) : (runRes n d b zs codes s).low ≤ (runRes n d b zs codes s).regs.getD 2 0 := by
  rw [(rr_good n d b zs codes s hl hcu hv hs).1]
  simp only [Bool.and_eq_true] at hv
  obtain ⟨hG, hst, hmb, hn⟩ := boot_good n d b zs hv.1 hv.2
  exact runM_low codes b _ hG hmb ⟨by omega, hcu⟩ (bootM_low n d b zs) _
theorem rr_zero (n : Nat) (d b : Int) (zs codes : List Int) (hv : (vimg n d b && okIn zs) = true) : runRes n d b zs codes 0 = bootM n d b zs := by
  unfold runRes
  rw [if_pos hv, if_pos (by decide)]
  rfl
theorem good_wf {c : Mc} (hg : Good c) : Wf c := ⟨fun j hj => hg.ru j (by have := hg.r32; omega), hg.pcu, hg.lou, hg.du, hg.su⟩
end Go.Proofs.Ytabjcodpagjbjaa

namespace Go.Proofs.Ytabjcodpagjbjaa
open Go.RowKit
set_option linter.unusedVariables false
set_option linter.unusedSectionVars false
set_option linter.unusedSimpArgs false
variable [Inhabited Pick]
theorem fld0 (a : Option Addr) (n c : Nat) (x1 x2 x3 x4 x5 x6 x7 : Value) (W : World) : (Instr.field 32 (.agg #[.slice a n c, x1, x2, x3, x4, x5, x6, x7]) 0).run Try.prog W = .ok (.slice a n c) W := by kernel_rfl
theorem CpuAt.reg {W : World} {B : Nat} {c : Mc} {r p d s i o l t : Value} (h : CpuAt W B (.agg #[r, p, d, s, i, o, l, t]) c) : Lis .u32 W r c.regs := by
  obtain ⟨r', d', s', i', o', hv, lr, _⟩ := h
  simp at hv
  obtain ⟨rfl, _⟩ := hv
  exact lr
theorem lis_cell {k : IntKind} {W : World} {g off n q : Nat} {zs : List Int} (h : Lis k W (.slice (some ⟨g, off, none⟩) n q) zs) (j : Nat) (hj : j < zs.length) : W.cell? ⟨g, off + j, none⟩ = some (.int k (zs.getD j 0)) := by
  obtain ⟨g', off', cap, hv, hr, _⟩ := lis_some h (by omega)
  injection hv with h1 h2 h3
  injection h1 with h1
  injection h1 with h4 h5
  subst h4
  subst h5
  exact hr.cell j hj
/-- The image, the inputs, the two machines, and where they lie. -/
structure Sx (bm ba bb : Nat) (am : Option Addr) (cm : Nat) (vi : Value) (d b : Int) (zs is : List Int) (ca cb : Mc) (x1 x2 x3 x4 x5 : Option Addr) (y1 y2 y3 y4 y5 : Nat) (p1 p2 p3 p4 p5 : Option Addr) (q1 q2 q3 q4 q5 : Nat) (W : World) : Prop where
  m : M3 W bm (.slice am zs.length cm) (.int .i64 d) (.int .i64 b)
  a : Bx W ba (.slice x1 ca.regs.length y1) (.int .u32 ca.pc) (.slice x2 ca.data.length y2) (.slice x3 ca.stack.length y3) (.slice x4 ca.inn.length y4) (.slice x5 ca.out.length y5) (.int .u32 ca.low) (.int .i64 ca.st)
  b : Bx W bb (.slice p1 cb.regs.length q1) (.int .u32 cb.pc) (.slice p2 cb.data.length q2) (.slice p3 cb.stack.length q3) (.slice p4 cb.inn.length q4) (.slice p5 cb.out.length q5) (.int .u32 cb.low) (.int .i64 cb.st)
  lm : Lis .u32 W (.slice am zs.length cm) zs
  li : Lis .i64 W vi is
  ka : ∃ B, CpuAt W B (.agg #[.slice x1 ca.regs.length y1, .int .u32 ca.pc, .slice x2 ca.data.length y2, .slice x3 ca.stack.length y3, .slice x4 ca.inn.length y4, .slice x5 ca.out.length y5, .int .u32 ca.low, .int .i64 ca.st]) ca
  kb : ∃ B, CpuAt W B (.agg #[.slice p1 cb.regs.length q1, .int .u32 cb.pc, .slice p2 cb.data.length q2, .slice p3 cb.stack.length q3, .slice p4 cb.inn.length q4, .slice p5 cb.out.length q5, .int .u32 cb.low, .int .i64 cb.st]) cb
theorem Sx.below {bm ba bb : Nat} {am : Option Addr} {cm : Nat} {vi : Value} {d b : Int} {zs is : List Int} {ca cb : Mc} {x1 x2 x3 x4 x5 : Option Addr} {y1 y2 y3 y4 y5 : Nat} {p1 p2 p3 p4 p5 : Option Addr} {q1 q2 q3 q4 q5 : Nat} {W W' : World} (h : Sx bm ba bb am cm vi d b zs is ca cb x1 x2 x3 x4 x5 y1 y2 y3 y4 y5 p1 p2 p3 p4 p5 q1 q2 q3 q4 q5 W) (hb : Below W.heap.size W W') : Sx bm ba bb am cm vi d b zs is ca cb x1 x2 x3 x4 x5 y1 y2 y3 y4 y5 p1 p2 p3 p4 p5 q1 q2 q3 q4 q5 W' := by
  obtain ⟨B1, k1⟩ := h.ka
  obtain ⟨B2, k2⟩ := h.kb
  exact ⟨h.m.below hb, h.a.below hb, h.b.below hb, h.lm.below hb, h.li.below hb, ⟨B1, k1.below hb⟩, ⟨B2, k2.below hb⟩⟩

set_option maxRecDepth 8000 in
set_option maxHeartbeats 2000000 in
theorem law_steps (a1 : Option Addr) (n1 c1 : Nat) (v2 : Value) (ys : List Int) (w : World) (h1 : n1 ≤ 1048576) (h2 : ys.length ≤ 1048576) (hb8 : B8 w a1 n1) (hy : Rds .u8 w v2 ys) (hyb : ∀ j, j < ys.length → 0 ≤ ys.getD j 0 ∧ ys.getD j 0 ≤ 255) :
    Calls Try.prog 3 #[.slice a1 n1 c1, v2] w fun e w' => e = .returned (.bool true) ∧ Below w.heap.size w w' := by
  obtain ⟨a2, c2, rfl, hyy⟩ := id hy
  clear hyy
  have HY : Hid _ := hy
  have HB : Hid _ := hb8
  clear hy hb8
  go_enter Try.func3, Try.ntmps3
  go_wp2_with fail
  refine (run_draw a1 n1 c1 _ h1 HB.out).mono ?_
  rintro e w1 ⟨am, cm, vi, zs, is, d, b, st, rfl, l1, hz1, hcu, l2, hi1, hnil, hb1⟩
  obtain ⟨ai, ci, rfl⟩ := l2.len0
  have H1 : Hid _ := And.intro l1 (And.intro l2 (And.intro hb1 (And.intro hnil hcu)))
  have hs1 := hb1.size
  clear l1 l2 hb1 hnil hcu
  have M1 := M3.of_heap (heap_alloc_new w1 (.cells #[.slice am zs.length cm, .int .i64 d, .int .i64 b] 25))
  have A1 := (Below.refl w1.heap.size w1).alloc (Nat.le_refl _) (.cells #[.slice am zs.length cm, .int .i64 d, .int .i64 b] 25)
  obtain ⟨m0, m1, m2⟩ := id M1
  have HM : Hid _ := And.intro M1 A1
  clear M1 A1
  go_wp2_with fail
  refine (lw_at0 _ ys _ h2 hyb (Rds.below HY.out (H1.out.2.2.1.trans (HM.out.2.mono hs1)))).mono ?_
  rintro e w' ⟨rfl, rfl⟩
  have hn0 : 0 ≤ ys.getD 0 19 ∧ ys.getD 0 19 ≤ 255 := by
    by_cases h : 0 < ys.length
    · have := hyb 0 h
      simpa [List.getD, h] using this
    · have h' : ys = [] := List.length_eq_zero_iff.1 (by omega)
      rw [h']
      decide
  generalize ys.getD 0 19 = y0 at hn0
  obtain ⟨n, hn, hn50⟩ : ∃ n : Nat, Int.tmod y0 50 = (n : Int) ∧ n < 50 := ⟨(y0 % 50).toNat, by rw [Int.tmod_eq_emod_of_nonneg hn0.1]; omega, by omega⟩
  go_wp2_with fail
  refine (run_i am zs.length cm d b _ is zs _ (by omega) (by omega) (H1.out.2.1.below HM.out.2) (H1.out.1.below HM.out.2) H1.out.2.2.2.2 n).mono ?_
  rintro e w2 ⟨u2, rfl, cp2, hb2⟩
  generalize hca : runRes zs.length d b is zs n = ca at cp2
  have HCA : Hid (runRes zs.length d b is zs n = ca) := hca
  clear hca
  obtain ⟨x1, y1, x2, y2, x3, y3, x4, y4, x5, y5, rfl⟩ := cp2.shape
  have hs2 := hb2.size
  simp only [World.size_alloc] at hs2
  have M2 := HM.out.1.below hb2
  have A2 := HM.out.2.trans (hb2.mono (by simp))
  have H2 : Hid _ := And.intro M2 (And.intro A2 cp2)
  clear M2 A2 cp2 hb2 HM m0 m1 m2
  have N2 := Bx.of_heap (heap_alloc_new w2 (.cells #[.slice x1 ca.regs.length y1, .int .u32 ca.pc, .slice x2 ca.data.length y2, .slice x3 ca.stack.length y3, .slice x4 ca.inn.length y4, .slice x5 ca.out.length y5, .int .u32 ca.low, .int .i64 ca.st] 32))
  have A2 := (Below.refl w2.heap.size w2).alloc (Nat.le_refl _) (.cells #[.slice x1 ca.regs.length y1, .int .u32 ca.pc, .slice x2 ca.data.length y2, .slice x3 ca.stack.length y3, .slice x4 ca.inn.length y4, .slice x5 ca.out.length y5, .int .u32 ca.low, .int .i64 ca.st] 32)
  have M2 := H2.out.1.below A2
  obtain ⟨m0, m1, m2⟩ := id M2
  have G2 : Hid (M3 _ _ _ _ _ ∧ Bx _ _ _ _ _ _ _ _ _ _ ∧ (∃ B, CpuAt _ B _ _) ∧ Below _ _ _) := And.intro M2 (And.intro N2 (And.intro ⟨_, H2.out.2.2.below A2⟩ (H2.out.2.1.trans (A2.mono (by omega)))))
  clear M2 N2 A2 H2
  go_wp2_with fail
  refine (run_i am zs.length cm d b _ is zs _ (by omega) (by omega) (H1.out.2.1.below G2.out.2.2.2) (H1.out.1.below G2.out.2.2.2) H1.out.2.2.2.2 _).mono ?_
  rintro e w3 ⟨u3, rfl, cp3, hb3⟩
  generalize hcb : runRes zs.length d b is zs _ = cb at cp3
  have HCB : Hid (runRes zs.length d b is zs _ = cb) := hcb
  clear hcb
  obtain ⟨p1, q1, p2, q2, p3, q3, p4, q4, p5, q5, rfl⟩ := cp3.shape
  have hs3 := hb3.size
  simp only [World.size_alloc] at hs3
  have A3 := (Below.refl w3.heap.size w3).alloc (Nat.le_refl _) (.cells #[.slice p1 cb.regs.length q1, .int .u32 cb.pc, .slice p2 cb.data.length q2, .slice p3 cb.stack.length q3, .slice p4 cb.inn.length q4, .slice p5 cb.out.length q5, .int .u32 cb.low, .int .i64 cb.st] 32)
  have N3 := Bx.of_heap (heap_alloc_new w3 (.cells #[.slice p1 cb.regs.length q1, .int .u32 cb.pc, .slice p2 cb.data.length q2, .slice p3 cb.stack.length q3, .slice p4 cb.inn.length q4, .slice p5 cb.out.length q5, .int .u32 cb.low, .int .i64 cb.st] 32))
  have B3' := hb3.trans (A3.mono hb3.size)
  obtain ⟨M2, N2, ⟨Ba, K2⟩, D2⟩ := G2.out
  have D3 := D2.trans (B3'.mono (by simp; omega))
  have X3 : Sx w1.heap.size w2.heap.size w3.heap.size am cm (.slice ai is.length ci) d b zs is ca cb x1 x2 x3 x4 x5 y1 y2 y3 y4 y5 p1 p2 p3 p4 p5 q1 q2 q3 q4 q5 (w3.alloc (.cells #[.slice p1 cb.regs.length q1, .int .u32 cb.pc, .slice p2 cb.data.length q2, .slice p3 cb.stack.length q3, .slice p4 cb.inn.length q4, .slice p5 cb.out.length q5, .int .u32 cb.low, .int .i64 cb.st] 32)) :=
    ⟨M2.below B3', N2.below B3', N3, H1.out.1.below D3, H1.out.2.1.below D3, ⟨_, K2.below B3'⟩, ⟨_, cp3.below A3⟩⟩
  have F3 : Below w.heap.size w (w3.alloc (.cells #[.slice p1 cb.regs.length q1, .int .u32 cb.pc, .slice p2 cb.data.length q2, .slice p3 cb.stack.length q3, .slice p4 cb.inn.length q4, .slice p5 cb.out.length q5, .int .u32 cb.low, .int .i64 cb.st] 32)) := H1.out.2.2.1.trans (D3.mono hs1)
  have G3 : Hid _ := And.intro X3 (And.intro F3 H1.out.2.2.2)
  clear G2 M2 N2 K2 D2 D3 X3 F3 N3 A3 B3' cp3 hb3 H1 m0 m1 m2
  go_upto_region 7 with fail
  generalize w3.alloc (.cells #[.slice p1 cb.regs.length q1, .int .u32 cb.pc, .slice p2 cb.data.length q2, .slice p3 cb.stack.length q3, .slice p4 cb.inn.length q4, .slice p5 cb.out.length q5, .int .u32 cb.low, .int .i64 cb.st] 32) = W at G3 ⊢
  obtain ⟨X3, F3, hnil, hcu⟩ := G3.out
  have KS : ((W.cell? ⟨w3.heap.size, 0, none⟩ = some (.slice p1 cb.regs.length q1) ∧ W.cell? ⟨w3.heap.size, 1, none⟩ = some (.int .u32 cb.pc) ∧ W.cell? ⟨w3.heap.size, 2, none⟩ = some (.slice p2 cb.data.length q2) ∧ W.cell? ⟨w3.heap.size, 3, none⟩ = some (.slice p3 cb.stack.length q3) ∧ W.cell? ⟨w3.heap.size, 4, none⟩ = some (.slice p4 cb.inn.length q4) ∧ W.cell? ⟨w3.heap.size, 5, none⟩ = some (.slice p5 cb.out.length q5) ∧ W.cell? ⟨w3.heap.size, 6, none⟩ = some (.int .u32 cb.low) ∧ W.cell? ⟨w3.heap.size, 7, none⟩ = some (.int .i64 cb.st)) ∧ (W.cell? ⟨w1.heap.size, 0, none⟩ = some (.slice am zs.length cm) ∧ W.cell? ⟨w1.heap.size, 1, none⟩ = some (.int .i64 d) ∧ W.cell? ⟨w1.heap.size, 2, none⟩ = some (.int .i64 b))) := ⟨⟨X3.b.c0, X3.b.c1, X3.b.c2, X3.b.c3, X3.b.c4, X3.b.c5, X3.b.c6, X3.b.c7⟩, X3.m.c0, X3.m.c1, X3.m.c2⟩
  have HT : Hid (∀ V, Below W.heap.size W V → Calls Try.prog 9 #[.agg #[.slice am zs.length cm, .int .i64 d, .int .i64 b], .slice ai is.length ci, .int .i64 (IntKind.i64.wrap (↑n + 1))] V fun e w' => ∃ u, e = .returned u ∧ (∃ B, CpuAt w' B u cb) ∧ Below W.heap.size W w' ∧ ((w'.cell? ⟨w3.heap.size, 0, none⟩ = some (.slice p1 cb.regs.length q1) ∧ w'.cell? ⟨w3.heap.size, 1, none⟩ = some (.int .u32 cb.pc) ∧ w'.cell? ⟨w3.heap.size, 2, none⟩ = some (.slice p2 cb.data.length q2) ∧ w'.cell? ⟨w3.heap.size, 3, none⟩ = some (.slice p3 cb.stack.length q3) ∧ w'.cell? ⟨w3.heap.size, 4, none⟩ = some (.slice p4 cb.inn.length q4) ∧ w'.cell? ⟨w3.heap.size, 5, none⟩ = some (.slice p5 cb.out.length q5) ∧ w'.cell? ⟨w3.heap.size, 6, none⟩ = some (.int .u32 cb.low) ∧ w'.cell? ⟨w3.heap.size, 7, none⟩ = some (.int .i64 cb.st)) ∧ (w'.cell? ⟨w1.heap.size, 0, none⟩ = some (.slice am zs.length cm) ∧ w'.cell? ⟨w1.heap.size, 1, none⟩ = some (.int .i64 d) ∧ w'.cell? ⟨w1.heap.size, 2, none⟩ = some (.int .i64 b)))) := by
    intro V hV
    have hwr : IntKind.i64.wrap ((n : Int) + 1) = (n : Int) + 1 := by rw [IntKind.wrap_i64]; omega
    rw [hwr]
    have XV := X3.below hV
    refine (run_s am zs.length cm d b _ is zs V (by omega) (by omega) XV.li hnil XV.lm hcu _).mono ?_
    rintro e w9 ⟨u, rfl, cp9, hb9⟩
    rw [HCB.out] at cp9
    have X9 := XV.below hb9
    exact ⟨u, rfl, ⟨_, cp9⟩, hV.trans (hb9.mono hV.size), ⟨⟨X9.b.c0, X9.b.c1, X9.b.c2, X9.b.c3, X9.b.c4, X9.b.c5, X9.b.c6, X9.b.c7⟩, X9.m.c0, X9.m.c1, X9.m.c2⟩⟩
  have HE : Hid (∀ u V, (∃ B, CpuAt V B u cb) → Below W.heap.size W V → Calls Try.prog 8 #[.agg #[.slice p1 cb.regs.length q1, .int .u32 cb.pc, .slice p2 cb.data.length q2, .slice p3 cb.stack.length q3, .slice p4 cb.inn.length q4, .slice p5 cb.out.length q5, .int .u32 cb.low, .int .i64 cb.st], u] V fun e w' => e = .returned (.bool true) ∧ Below W.heap.size W w' ∧ ((w'.cell? ⟨w3.heap.size, 0, none⟩ = some (.slice p1 cb.regs.length q1) ∧ w'.cell? ⟨w3.heap.size, 1, none⟩ = some (.int .u32 cb.pc) ∧ w'.cell? ⟨w3.heap.size, 2, none⟩ = some (.slice p2 cb.data.length q2) ∧ w'.cell? ⟨w3.heap.size, 3, none⟩ = some (.slice p3 cb.stack.length q3) ∧ w'.cell? ⟨w3.heap.size, 4, none⟩ = some (.slice p4 cb.inn.length q4) ∧ w'.cell? ⟨w3.heap.size, 5, none⟩ = some (.slice p5 cb.out.length q5) ∧ w'.cell? ⟨w3.heap.size, 6, none⟩ = some (.int .u32 cb.low) ∧ w'.cell? ⟨w3.heap.size, 7, none⟩ = some (.int .i64 cb.st)) ∧ (w'.cell? ⟨w1.heap.size, 0, none⟩ = some (.slice am zs.length cm) ∧ w'.cell? ⟨w1.heap.size, 1, none⟩ = some (.int .i64 d) ∧ w'.cell? ⟨w1.heap.size, 2, none⟩ = some (.int .i64 b)))) := by
    intro u V hu hV
    obtain ⟨B, hu⟩ := hu
    have XV := X3.below hV
    obtain ⟨B2, k2⟩ := XV.kb
    refine (lwCpu_any _ _ cb _ _ V (by rw [← HCB.out]; exact rr_small _ _ _ _ _ _ rfl hcu) k2 hu).mono ?_
    rintro e w9 ⟨rfl, hb9⟩
    have X9 := XV.below hb9
    exact ⟨rfl, hV.trans (hb9.mono hV.size), ⟨⟨X9.b.c0, X9.b.c1, X9.b.c2, X9.b.c3, X9.b.c4, X9.b.c5, X9.b.c6, X9.b.c7⟩, X9.m.c0, X9.m.c1, X9.m.c2⟩⟩
  clear X3 F3 hnil hcu
  go_region_held3 (fun W => ((W.cell? ⟨w3.heap.size, 0, none⟩ = some (.slice p1 cb.regs.length q1) ∧ W.cell? ⟨w3.heap.size, 1, none⟩ = some (.int .u32 cb.pc) ∧ W.cell? ⟨w3.heap.size, 2, none⟩ = some (.slice p2 cb.data.length q2) ∧ W.cell? ⟨w3.heap.size, 3, none⟩ = some (.slice p3 cb.stack.length q3) ∧ W.cell? ⟨w3.heap.size, 4, none⟩ = some (.slice p4 cb.inn.length q4) ∧ W.cell? ⟨w3.heap.size, 5, none⟩ = some (.slice p5 cb.out.length q5) ∧ W.cell? ⟨w3.heap.size, 6, none⟩ = some (.int .u32 cb.low) ∧ W.cell? ⟨w3.heap.size, 7, none⟩ = some (.int .i64 cb.st)) ∧ (W.cell? ⟨w1.heap.size, 0, none⟩ = some (.slice am zs.length cm) ∧ W.cell? ⟨w1.heap.size, 1, none⟩ = some (.int .i64 d) ∧ W.cell? ⟨w1.heap.size, 2, none⟩ = some (.int .i64 b)))) (first | exact KS | assumption)
    (first
    | (go_at_call 9; refine (HT.out _ ?_).mono ?_; (first | exact (Below.refl _ _).drew | exact Below.refl _ _); rintro e w9 ⟨u9, rfl, l9, B9, k9'⟩)
    | (go_at_call 8; refine (HE.out _ _ ?_ ?_).mono ?_; (first | assumption | exact l9); (first | assumption | exact B9); rintro e w10 ⟨rfl, B10, k10'⟩))
  have X4 := G3.out.1.below B10
  have F4 := G3.out.2.1.trans (B10.mono G3.out.2.1.size)
  have G4 : Hid _ := And.intro X4 (And.intro F4 G3.out.2.2)
  obtain ⟨m0, m1, m2⟩ := X4.m
  obtain ⟨e0, e1, e2, e3, e4, e5, e6, e7, ef⟩ := X4.a
  clear X4 F4 G3 HT HE KS B10 k10' l9 B9 k9'
  go_wp2_with fail
  refine (boot_s am zs.length cm d b _ is _ (by omega) (by omega) G4.out.1.li G4.out.2.2.1).mono ?_
  rintro e w11 ⟨u11, rfl, cp11, hb11⟩
  have X5 := G4.out.1.below hb11
  have F5 := G4.out.2.1.trans (hb11.mono G4.out.2.1.size)
  have G5 : Hid _ := And.intro X5 (And.intro F5 G4.out.2.2)
  obtain ⟨m0, m1, m2⟩ := X5.m
  obtain ⟨e0, e1, e2, e3, e4, e5, e6, e7, ef⟩ := X5.a
  clear X5 F5 G4 hb11
  obtain ⟨g1, k1, g2, k2, g3, k3, g4, k4, g5, k5, hu⟩ := cp11.shape
  have HP : Hid _ := cp11
  clear cp11
  have hfld := fun (W : World) (n : Nat) (x1 x2 x3 x4 x5 x6 x7 : Value) => fld0 g1 n k1 x1 x2 x3 x4 x5 x6 x7 W
  by_cases hv : (vimg zs.length d b && okIn is) = true
  · have hlen := bm_yes zs.length d b is hv
    rw [hlen] at hu
    subst hu
    have HV : Hid _ := hv
    clear hv hlen HP e0 e1 e2 e3 e4 e5 e6 e7 ef m0 m1 m2
    go_upto_region 11 with fail
    obtain ⟨hs1', hs2'⟩ : stepsOk (n : Int) = true ∧ stepsOk ((n : Int) + 1) = true := ⟨decide_eq_true (by omega), decide_eq_true (by omega)⟩
    obtain ⟨X5, F5, hnil, hcu⟩ := G5.out
    have hga : Good ca := by rw [← HCA.out]; exact (rr_good _ _ _ _ _ _ rfl hcu HV.out hs1').2
    have hgb : Good cb := by rw [← HCB.out]; exact (rr_good _ _ _ _ _ _ rfl hcu HV.out hs2').2
    have hlow : cb.low ≤ cb.regs.getD 2 0 := by rw [← HCB.out]; exact rr_low _ _ _ _ _ _ rfl hcu HV.out hs2'
    have hstep : stepRes zs.length d b zs ca = cb := by rw [← HCA.out, ← HCB.out]; exact step_run _ _ _ _ _ rfl hcu n HV.out hs1' hs2'
    have hr32 := hgb.r32
    have hbu := hgb.ru 2 (by decide)
    have hblu := hgb.lou
    obtain ⟨rr, hrr⟩ : ∃ rr : Int, cb.regs.getD 2 0 = rr := ⟨_, rfl⟩
    rw [hrr] at hlow hbu
    obtain ⟨Bb, kb⟩ := X5.kb
    have lr := kb.reg
    obtain ⟨gr, off, cr, hp, hrow⟩ := lis_some lr (by omega)
    injection hp with hp1 hp2 hp3
    subst hp1
    clear hrow lr kb hp2 hp3
    have hX : ∀ V, Below w11.heap.size w11 V → (((V.cell? ⟨w2.heap.size, 0, none⟩ = some (.slice x1 ca.regs.length y1) ∧ V.cell? ⟨w2.heap.size, 1, none⟩ = some (.int .u32 ca.pc) ∧ V.cell? ⟨w2.heap.size, 2, none⟩ = some (.slice x2 ca.data.length y2) ∧ V.cell? ⟨w2.heap.size, 3, none⟩ = some (.slice x3 ca.stack.length y3) ∧ V.cell? ⟨w2.heap.size, 4, none⟩ = some (.slice x4 ca.inn.length y4) ∧ V.cell? ⟨w2.heap.size, 5, none⟩ = some (.slice x5 ca.out.length y5) ∧ V.cell? ⟨w2.heap.size, 6, none⟩ = some (.int .u32 ca.low) ∧ V.cell? ⟨w2.heap.size, 7, none⟩ = some (.int .i64 ca.st)) ∧ (V.cell? ⟨w3.heap.size, 0, none⟩ = some (.slice (some ⟨gr, off, none⟩) 32 q1) ∧ V.cell? ⟨w3.heap.size, 1, none⟩ = some (.int .u32 cb.pc) ∧ V.cell? ⟨w3.heap.size, 2, none⟩ = some (.slice p2 cb.data.length q2) ∧ V.cell? ⟨w3.heap.size, 3, none⟩ = some (.slice p3 cb.stack.length q3) ∧ V.cell? ⟨w3.heap.size, 4, none⟩ = some (.slice p4 cb.inn.length q4) ∧ V.cell? ⟨w3.heap.size, 5, none⟩ = some (.slice p5 cb.out.length q5) ∧ V.cell? ⟨w3.heap.size, 6, none⟩ = some (.int .u32 cb.low) ∧ V.cell? ⟨w3.heap.size, 7, none⟩ = some (.int .i64 cb.st))) ∧ (V.cell? ⟨w1.heap.size, 0, none⟩ = some (.slice am zs.length cm) ∧ V.cell? ⟨w1.heap.size, 1, none⟩ = some (.int .i64 d) ∧ V.cell? ⟨w1.heap.size, 2, none⟩ = some (.int .i64 b)) ∧ V.cell? ⟨gr, off + 2, none⟩ = some (.int .u32 rr)) := by
      intro V hV
      have XV := X5.below hV
      obtain ⟨B2, k2⟩ := XV.kb
      have hc0 := XV.b.c0
      rw [hr32] at hc0
      have h2 := lis_cell k2.reg 2 (by omega)
      rw [hrr] at h2
      exact ⟨⟨⟨XV.a.c0, XV.a.c1, XV.a.c2, XV.a.c3, XV.a.c4, XV.a.c5, XV.a.c6, XV.a.c7⟩, hc0, XV.b.c1, XV.b.c2, XV.b.c3, XV.b.c4, XV.b.c5, XV.b.c6, XV.b.c7⟩, ⟨XV.m.c0, XV.m.c1, XV.m.c2⟩, h2⟩
    have hkb : ∀ V, Below w11.heap.size w11 V → ∃ B, CpuAt V B (.agg #[.slice (some ⟨gr, off, none⟩) 32 q1, .int .u32 cb.pc, .slice p2 cb.data.length q2, .slice p3 cb.stack.length q3, .slice p4 cb.inn.length q4, .slice p5 cb.out.length q5, .int .u32 cb.low, .int .i64 cb.st]) cb := by
      intro V hV
      obtain ⟨B2, k2⟩ := (X5.below hV).kb
      rw [hr32] at k2
      exact ⟨B2, k2⟩
    have KS := hX w11 (Below.refl _ _)
    have HS : Hid (∀ V, Below w11.heap.size w11 V → Calls Try.prog 11 #[.agg #[.slice am zs.length cm, .int .i64 d, .int .i64 b], .agg #[.slice x1 ca.regs.length y1, .int .u32 ca.pc, .slice x2 ca.data.length y2, .slice x3 ca.stack.length y3, .slice x4 ca.inn.length y4, .slice x5 ca.out.length y5, .int .u32 ca.low, .int .i64 ca.st]] V fun e w' => ∃ u, e = .returned u ∧ (∃ B, CpuAt w' B u cb) ∧ Below w11.heap.size w11 w' ∧ (((w'.cell? ⟨w2.heap.size, 0, none⟩ = some (.slice x1 ca.regs.length y1) ∧ w'.cell? ⟨w2.heap.size, 1, none⟩ = some (.int .u32 ca.pc) ∧ w'.cell? ⟨w2.heap.size, 2, none⟩ = some (.slice x2 ca.data.length y2) ∧ w'.cell? ⟨w2.heap.size, 3, none⟩ = some (.slice x3 ca.stack.length y3) ∧ w'.cell? ⟨w2.heap.size, 4, none⟩ = some (.slice x4 ca.inn.length y4) ∧ w'.cell? ⟨w2.heap.size, 5, none⟩ = some (.slice x5 ca.out.length y5) ∧ w'.cell? ⟨w2.heap.size, 6, none⟩ = some (.int .u32 ca.low) ∧ w'.cell? ⟨w2.heap.size, 7, none⟩ = some (.int .i64 ca.st)) ∧ (w'.cell? ⟨w3.heap.size, 0, none⟩ = some (.slice (some ⟨gr, off, none⟩) 32 q1) ∧ w'.cell? ⟨w3.heap.size, 1, none⟩ = some (.int .u32 cb.pc) ∧ w'.cell? ⟨w3.heap.size, 2, none⟩ = some (.slice p2 cb.data.length q2) ∧ w'.cell? ⟨w3.heap.size, 3, none⟩ = some (.slice p3 cb.stack.length q3) ∧ w'.cell? ⟨w3.heap.size, 4, none⟩ = some (.slice p4 cb.inn.length q4) ∧ w'.cell? ⟨w3.heap.size, 5, none⟩ = some (.slice p5 cb.out.length q5) ∧ w'.cell? ⟨w3.heap.size, 6, none⟩ = some (.int .u32 cb.low) ∧ w'.cell? ⟨w3.heap.size, 7, none⟩ = some (.int .i64 cb.st))) ∧ (w'.cell? ⟨w1.heap.size, 0, none⟩ = some (.slice am zs.length cm) ∧ w'.cell? ⟨w1.heap.size, 1, none⟩ = some (.int .i64 d) ∧ w'.cell? ⟨w1.heap.size, 2, none⟩ = some (.int .i64 b)) ∧ w'.cell? ⟨gr, off + 2, none⟩ = some (.int .u32 rr))) := by
      intro V hV
      have XV := X5.below hV
      obtain ⟨B1, k1⟩ := XV.ka
      obtain ⟨L, kv, _⟩ := k1.toV2
      refine (sc_any am zs.length cm d b _ L ca V (by omega) kv (good_small hga) zs XV.lm hcu (good_wf hga)).mono ?_
      rintro e w9 ⟨u, rfl, cp9, hb9⟩
      rw [hstep] at cp9
      have h9 := hV.trans (hb9.mono hV.size)
      exact ⟨u, rfl, ⟨_, cp9⟩, h9, hX w9 h9⟩
    have HE : Hid (∀ u V, (∃ B, CpuAt V B u cb) → Below w11.heap.size w11 V → Calls Try.prog 8 #[u, .agg #[.slice (some ⟨gr, off, none⟩) 32 q1, .int .u32 cb.pc, .slice p2 cb.data.length q2, .slice p3 cb.stack.length q3, .slice p4 cb.inn.length q4, .slice p5 cb.out.length q5, .int .u32 cb.low, .int .i64 cb.st]] V fun e w' => e = .returned (.bool true) ∧ Below w11.heap.size w11 w' ∧ (((w'.cell? ⟨w2.heap.size, 0, none⟩ = some (.slice x1 ca.regs.length y1) ∧ w'.cell? ⟨w2.heap.size, 1, none⟩ = some (.int .u32 ca.pc) ∧ w'.cell? ⟨w2.heap.size, 2, none⟩ = some (.slice x2 ca.data.length y2) ∧ w'.cell? ⟨w2.heap.size, 3, none⟩ = some (.slice x3 ca.stack.length y3) ∧ w'.cell? ⟨w2.heap.size, 4, none⟩ = some (.slice x4 ca.inn.length y4) ∧ w'.cell? ⟨w2.heap.size, 5, none⟩ = some (.slice x5 ca.out.length y5) ∧ w'.cell? ⟨w2.heap.size, 6, none⟩ = some (.int .u32 ca.low) ∧ w'.cell? ⟨w2.heap.size, 7, none⟩ = some (.int .i64 ca.st)) ∧ (w'.cell? ⟨w3.heap.size, 0, none⟩ = some (.slice (some ⟨gr, off, none⟩) 32 q1) ∧ w'.cell? ⟨w3.heap.size, 1, none⟩ = some (.int .u32 cb.pc) ∧ w'.cell? ⟨w3.heap.size, 2, none⟩ = some (.slice p2 cb.data.length q2) ∧ w'.cell? ⟨w3.heap.size, 3, none⟩ = some (.slice p3 cb.stack.length q3) ∧ w'.cell? ⟨w3.heap.size, 4, none⟩ = some (.slice p4 cb.inn.length q4) ∧ w'.cell? ⟨w3.heap.size, 5, none⟩ = some (.slice p5 cb.out.length q5) ∧ w'.cell? ⟨w3.heap.size, 6, none⟩ = some (.int .u32 cb.low) ∧ w'.cell? ⟨w3.heap.size, 7, none⟩ = some (.int .i64 cb.st))) ∧ (w'.cell? ⟨w1.heap.size, 0, none⟩ = some (.slice am zs.length cm) ∧ w'.cell? ⟨w1.heap.size, 1, none⟩ = some (.int .i64 d) ∧ w'.cell? ⟨w1.heap.size, 2, none⟩ = some (.int .i64 b)) ∧ w'.cell? ⟨gr, off + 2, none⟩ = some (.int .u32 rr))) := by
      intro u V hu hV
      obtain ⟨B, hu⟩ := hu
      obtain ⟨B2, k2⟩ := hkb V hV
      refine (lwCpu_any _ _ cb _ _ V (good_small hgb) hu k2).mono ?_
      rintro e w9 ⟨rfl, hb9⟩
      have h9 := hV.trans (hb9.mono hV.size)
      exact ⟨rfl, h9, hX w9 h9⟩
    have HR : Hid (∀ V, Below w11.heap.size w11 V → Calls Try.prog 7 #[.agg #[.slice am zs.length cm, .int .i64 d, .int .i64 b], .slice ai is.length ci, .int .i64 0] V fun e w' => ∃ u, e = .returned u ∧ (∃ B, CpuAt w' B u (bootM zs.length d b is)) ∧ Below w11.heap.size w11 w' ∧ (((w'.cell? ⟨w2.heap.size, 0, none⟩ = some (.slice x1 ca.regs.length y1) ∧ w'.cell? ⟨w2.heap.size, 1, none⟩ = some (.int .u32 ca.pc) ∧ w'.cell? ⟨w2.heap.size, 2, none⟩ = some (.slice x2 ca.data.length y2) ∧ w'.cell? ⟨w2.heap.size, 3, none⟩ = some (.slice x3 ca.stack.length y3) ∧ w'.cell? ⟨w2.heap.size, 4, none⟩ = some (.slice x4 ca.inn.length y4) ∧ w'.cell? ⟨w2.heap.size, 5, none⟩ = some (.slice x5 ca.out.length y5) ∧ w'.cell? ⟨w2.heap.size, 6, none⟩ = some (.int .u32 ca.low) ∧ w'.cell? ⟨w2.heap.size, 7, none⟩ = some (.int .i64 ca.st)) ∧ (w'.cell? ⟨w3.heap.size, 0, none⟩ = some (.slice (some ⟨gr, off, none⟩) 32 q1) ∧ w'.cell? ⟨w3.heap.size, 1, none⟩ = some (.int .u32 cb.pc) ∧ w'.cell? ⟨w3.heap.size, 2, none⟩ = some (.slice p2 cb.data.length q2) ∧ w'.cell? ⟨w3.heap.size, 3, none⟩ = some (.slice p3 cb.stack.length q3) ∧ w'.cell? ⟨w3.heap.size, 4, none⟩ = some (.slice p4 cb.inn.length q4) ∧ w'.cell? ⟨w3.heap.size, 5, none⟩ = some (.slice p5 cb.out.length q5) ∧ w'.cell? ⟨w3.heap.size, 6, none⟩ = some (.int .u32 cb.low) ∧ w'.cell? ⟨w3.heap.size, 7, none⟩ = some (.int .i64 cb.st))) ∧ (w'.cell? ⟨w1.heap.size, 0, none⟩ = some (.slice am zs.length cm) ∧ w'.cell? ⟨w1.heap.size, 1, none⟩ = some (.int .i64 d) ∧ w'.cell? ⟨w1.heap.size, 2, none⟩ = some (.int .i64 b)) ∧ w'.cell? ⟨gr, off + 2, none⟩ = some (.int .u32 rr))) := by
      intro V hV
      have XV := X5.below hV
      refine (run_i am zs.length cm d b _ is zs V (by omega) (by omega) XV.li XV.lm hcu 0).mono ?_
      rintro e w9 ⟨u, rfl, cp9, hb9⟩
      rw [rr_zero _ _ _ _ _ HV.out] at cp9
      have h9 := hV.trans (hb9.mono hV.size)
      exact ⟨u, rfl, ⟨_, cp9⟩, h9, hX w9 h9⟩
    have HI : Hid (∀ v V, (∃ B, CpuAt V B v (bootM zs.length d b is)) → Below w11.heap.size w11 V → Calls Try.prog 12 #[.agg #[.slice am zs.length cm, .int .i64 d, .int .i64 b], .slice ai is.length ci] V fun e w' => ∃ u, e = .returned u ∧ ((∃ B, CpuAt w' B v (bootM zs.length d b is)) ∧ (∃ B, CpuAt w' B u (bootM zs.length d b is))) ∧ Below w11.heap.size w11 w' ∧ (((w'.cell? ⟨w2.heap.size, 0, none⟩ = some (.slice x1 ca.regs.length y1) ∧ w'.cell? ⟨w2.heap.size, 1, none⟩ = some (.int .u32 ca.pc) ∧ w'.cell? ⟨w2.heap.size, 2, none⟩ = some (.slice x2 ca.data.length y2) ∧ w'.cell? ⟨w2.heap.size, 3, none⟩ = some (.slice x3 ca.stack.length y3) ∧ w'.cell? ⟨w2.heap.size, 4, none⟩ = some (.slice x4 ca.inn.length y4) ∧ w'.cell? ⟨w2.heap.size, 5, none⟩ = some (.slice x5 ca.out.length y5) ∧ w'.cell? ⟨w2.heap.size, 6, none⟩ = some (.int .u32 ca.low) ∧ w'.cell? ⟨w2.heap.size, 7, none⟩ = some (.int .i64 ca.st)) ∧ (w'.cell? ⟨w3.heap.size, 0, none⟩ = some (.slice (some ⟨gr, off, none⟩) 32 q1) ∧ w'.cell? ⟨w3.heap.size, 1, none⟩ = some (.int .u32 cb.pc) ∧ w'.cell? ⟨w3.heap.size, 2, none⟩ = some (.slice p2 cb.data.length q2) ∧ w'.cell? ⟨w3.heap.size, 3, none⟩ = some (.slice p3 cb.stack.length q3) ∧ w'.cell? ⟨w3.heap.size, 4, none⟩ = some (.slice p4 cb.inn.length q4) ∧ w'.cell? ⟨w3.heap.size, 5, none⟩ = some (.slice p5 cb.out.length q5) ∧ w'.cell? ⟨w3.heap.size, 6, none⟩ = some (.int .u32 cb.low) ∧ w'.cell? ⟨w3.heap.size, 7, none⟩ = some (.int .i64 cb.st))) ∧ (w'.cell? ⟨w1.heap.size, 0, none⟩ = some (.slice am zs.length cm) ∧ w'.cell? ⟨w1.heap.size, 1, none⟩ = some (.int .i64 d) ∧ w'.cell? ⟨w1.heap.size, 2, none⟩ = some (.int .i64 b)) ∧ w'.cell? ⟨gr, off + 2, none⟩ = some (.int .u32 rr))) := by
      intro v V hv hV
      obtain ⟨B, hv⟩ := hv
      have XV := X5.below hV
      refine (boot_i am zs.length cm d b _ is V (by omega) (by omega) XV.li).mono ?_
      rintro e w9 ⟨u, rfl, cp9, hb9⟩
      have h9 := hV.trans (hb9.mono hV.size)
      exact ⟨u, rfl, ⟨⟨_, hv.below hb9⟩, ⟨_, cp9⟩⟩, h9, hX w9 h9⟩
    have HF : Hid (∀ u v V, (∃ B, CpuAt V B u (bootM zs.length d b is)) → (∃ B, CpuAt V B v (bootM zs.length d b is)) → Below w11.heap.size w11 V → Calls Try.prog 8 #[u, v] V fun e w' => e = .returned (.bool true) ∧ Below w11.heap.size w11 w' ∧ (((w'.cell? ⟨w2.heap.size, 0, none⟩ = some (.slice x1 ca.regs.length y1) ∧ w'.cell? ⟨w2.heap.size, 1, none⟩ = some (.int .u32 ca.pc) ∧ w'.cell? ⟨w2.heap.size, 2, none⟩ = some (.slice x2 ca.data.length y2) ∧ w'.cell? ⟨w2.heap.size, 3, none⟩ = some (.slice x3 ca.stack.length y3) ∧ w'.cell? ⟨w2.heap.size, 4, none⟩ = some (.slice x4 ca.inn.length y4) ∧ w'.cell? ⟨w2.heap.size, 5, none⟩ = some (.slice x5 ca.out.length y5) ∧ w'.cell? ⟨w2.heap.size, 6, none⟩ = some (.int .u32 ca.low) ∧ w'.cell? ⟨w2.heap.size, 7, none⟩ = some (.int .i64 ca.st)) ∧ (w'.cell? ⟨w3.heap.size, 0, none⟩ = some (.slice (some ⟨gr, off, none⟩) 32 q1) ∧ w'.cell? ⟨w3.heap.size, 1, none⟩ = some (.int .u32 cb.pc) ∧ w'.cell? ⟨w3.heap.size, 2, none⟩ = some (.slice p2 cb.data.length q2) ∧ w'.cell? ⟨w3.heap.size, 3, none⟩ = some (.slice p3 cb.stack.length q3) ∧ w'.cell? ⟨w3.heap.size, 4, none⟩ = some (.slice p4 cb.inn.length q4) ∧ w'.cell? ⟨w3.heap.size, 5, none⟩ = some (.slice p5 cb.out.length q5) ∧ w'.cell? ⟨w3.heap.size, 6, none⟩ = some (.int .u32 cb.low) ∧ w'.cell? ⟨w3.heap.size, 7, none⟩ = some (.int .i64 cb.st))) ∧ (w'.cell? ⟨w1.heap.size, 0, none⟩ = some (.slice am zs.length cm) ∧ w'.cell? ⟨w1.heap.size, 1, none⟩ = some (.int .i64 d) ∧ w'.cell? ⟨w1.heap.size, 2, none⟩ = some (.int .i64 b)) ∧ w'.cell? ⟨gr, off + 2, none⟩ = some (.int .u32 rr))) := by
      intro u v V hu hv hV
      obtain ⟨B1, hu⟩ := hu
      obtain ⟨B2, hv⟩ := hv
      have hsm : Small (bootM zs.length d b is) := by rw [← rr_zero _ _ _ _ zs HV.out]; exact rr_small _ _ _ _ _ _ rfl hcu
      refine (lwCpu_any _ _ _ _ _ V hsm hu hv).mono ?_
      rintro e w9 ⟨rfl, hb9⟩
      have h9 := hV.trans (hb9.mono hV.size)
      exact ⟨rfl, h9, hX w9 h9⟩
    clear X5 F5 hnil hcu hX hkb hrr hstep hga hgb hs1' hs2' hfld
    go_region_held3 (fun W => (((W.cell? ⟨w2.heap.size, 0, none⟩ = some (.slice x1 ca.regs.length y1) ∧ W.cell? ⟨w2.heap.size, 1, none⟩ = some (.int .u32 ca.pc) ∧ W.cell? ⟨w2.heap.size, 2, none⟩ = some (.slice x2 ca.data.length y2) ∧ W.cell? ⟨w2.heap.size, 3, none⟩ = some (.slice x3 ca.stack.length y3) ∧ W.cell? ⟨w2.heap.size, 4, none⟩ = some (.slice x4 ca.inn.length y4) ∧ W.cell? ⟨w2.heap.size, 5, none⟩ = some (.slice x5 ca.out.length y5) ∧ W.cell? ⟨w2.heap.size, 6, none⟩ = some (.int .u32 ca.low) ∧ W.cell? ⟨w2.heap.size, 7, none⟩ = some (.int .i64 ca.st)) ∧ (W.cell? ⟨w3.heap.size, 0, none⟩ = some (.slice (some ⟨gr, off, none⟩) 32 q1) ∧ W.cell? ⟨w3.heap.size, 1, none⟩ = some (.int .u32 cb.pc) ∧ W.cell? ⟨w3.heap.size, 2, none⟩ = some (.slice p2 cb.data.length q2) ∧ W.cell? ⟨w3.heap.size, 3, none⟩ = some (.slice p3 cb.stack.length q3) ∧ W.cell? ⟨w3.heap.size, 4, none⟩ = some (.slice p4 cb.inn.length q4) ∧ W.cell? ⟨w3.heap.size, 5, none⟩ = some (.slice p5 cb.out.length q5) ∧ W.cell? ⟨w3.heap.size, 6, none⟩ = some (.int .u32 cb.low) ∧ W.cell? ⟨w3.heap.size, 7, none⟩ = some (.int .i64 cb.st))) ∧ (W.cell? ⟨w1.heap.size, 0, none⟩ = some (.slice am zs.length cm) ∧ W.cell? ⟨w1.heap.size, 1, none⟩ = some (.int .i64 d) ∧ W.cell? ⟨w1.heap.size, 2, none⟩ = some (.int .i64 b)) ∧ W.cell? ⟨gr, off + 2, none⟩ = some (.int .u32 rr))) (first | exact KS | assumption)
      (first
      | (go_at_call 8; refine (HF.out _ _ _ l14.1 l14.2 B14).mono ?_; rintro e w15 ⟨rfl, B15, k15'⟩)
      | (go_at_call 8; refine (HE.out _ _ l12 B12).mono ?_; rintro e w13 ⟨rfl, B13, k13'⟩)
      | (go_at_call 11; refine (HS.out _ ?_).mono ?_; (first | exact (Below.refl _ _).drew | exact Below.refl _ _); rintro e w12 ⟨u12, rfl, l12, B12, k12'⟩)
      | (go_at_call 7; refine (HR.out _ B13).mono ?_; rintro e w16 ⟨u16, rfl, l16, B16, k16'⟩)
      | (go_at_call 12; refine (HI.out _ _ l16 B16).mono ?_; rintro e w14 ⟨u14, rfl, l14, B14, k14'⟩))
    go_wp2
    go_ret
    exact ⟨rfl, G5.out.2.1.trans (B15.mono G5.out.2.1.size)⟩
  · have hlen : (bootM zs.length d b is).regs.length = 0 := by rw [bm_no _ _ _ _ hv]; rfl
    have hcal : ca.regs.length = 0 := by rw [← HCA.out, rr_no _ _ _ _ _ _ hv]; rfl
    rw [hlen] at hu
    subst hu
    rw [hcal] at e0
    clear hv hlen HP
    go_wp2
    go_ret
    exact ⟨rfl, G5.out.2.1⟩
theorem law_long (a1 : Option Addr) (n1 c1 : Nat) (a2 : Option Addr) (n2 c2 : Nat) (w : World) (h : ¬ (n1 ≤ 1048576 ∧ n2 ≤ 1048576)) :
    Calls Try.prog 3 #[.slice a1 n1 c1, .slice a2 n2 c2] w fun e w' => e = .returned (.bool true) ∧ Below w.heap.size w w' := by
  by_cases h1 : n1 ≤ 1048576
  · have h2 : ¬ n2 ≤ 1048576 := fun e => h ⟨h1, e⟩
    go_enter Try.func3, Try.ntmps3
    go_wp2
    go_ret
    exact ⟨rfl, Below.refl _ _⟩
  · go_enter Try.func3, Try.ntmps3
    go_wp2
    go_ret
    exact ⟨rfl, Below.refl _ _⟩
end Go.Proofs.Ytabjcodpagjbjaa
