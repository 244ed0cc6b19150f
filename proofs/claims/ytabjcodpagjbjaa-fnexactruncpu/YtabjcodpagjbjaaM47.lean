import Derived.Deep.Cut
import Derived.Test.YtabjcodpagjbjaaM46
import Derived.Test.YtabjcodpagjbjaaM05
import Derived.Deep.RegionWith
import Derived.Deep.RegionHeld3
namespace Go.Proofs.Ytabjcodpagjbjaa
open Go.RowKit
set_option linter.unusedVariables false
set_option linter.unusedSectionVars false
set_option linter.unusedSimpArgs false
variable [Inhabited Pick]

set_option maxRecDepth 8000 in
set_option maxHeartbeats 1000000 in
theorem run_i_no (a : Option Addr) (len cap : Nat) (d bd : Int) (v : Value) (zs codes : List Int) (w : World) (hl : len ≤ 1048576) (hz : zs.length ≤ 2097152) (h : Lis .i64 w v zs) (hc : Lis .u32 w (.slice a len cap) codes) (hcu : ∀ j, j < codes.length → 0 ≤ codes.getD j 0 ∧ codes.getD j 0 ≤ 4294967295) (steps : Int) (hv : (vimg len d bd && okIn zs) = false) :
    Calls Try.prog 7 #[.agg #[.slice a len cap, .int .i64 d, .int .i64 bd], v, .int .i64 steps] w fun e w' => ∃ u, e = .returned u ∧ CpuAt w' w.heap.size u zeroM ∧ Below w.heap.size w w' := by
  have B2 : Below w.heap.size w ((w.alloc (.cells #[.slice a len cap, .int .i64 d, .int .i64 bd] 25)).alloc (.cells #[.slice none 0 0, .int .u32 0, .slice none 0 0, .slice none 0 0, .slice none 0 0, .slice none 0 0, .int .u32 0, .int .i64 0] 32)) := ((Below.refl _ _).alloc (Nat.le_refl _) _).alloc (by simp) _
  have HBO := boot_i a len cap d bd v zs ((w.alloc (.cells #[.slice a len cap, .int .i64 d, .int .i64 bd] 25)).alloc (.cells #[.slice none 0 0, .int .u32 0, .slice none 0 0, .slice none 0 0, .slice none 0 0, .slice none 0 0, .int .u32 0, .int .i64 0] 32)) hl hz (h.below B2)
  have hcod := hc.below B2
  have hll := lis_len hc
  have hcb : ∀ g ∈ blk (.slice a len cap), g < w.heap.size := hc.lt
  have hbm : bootM len d bd zs = zeroM := by unfold bootM; rw [hv]; rfl
  rw [hbm] at HBO
  have HQ : Hid _ := And.intro HBO (And.intro hcod (And.intro B2 hcb))
  clear HBO hcod B2 h hc hz hcu hl hcb
  clear hv hbm hll
  go_enter Try.func7, Try.ntmps7
  go_wp2_with fail
  refine HQ.out.1.mono ?_
  rintro e w1 ⟨u1, rfl, hA, hb1⟩
  obtain ⟨r, dd, s, i, o, rfl, hr, hd, hs, hi, ho, hnd, hB, hk⟩ := hA
  obtain ⟨e1, f1, rfl⟩ := hr.len0
  obtain ⟨e2, f2, rfl⟩ := hd.len0
  obtain ⟨e3, f3, rfl⟩ := hs.len0
  obtain ⟨e4, f4, rfl⟩ := hi.len0
  obtain ⟨e5, f5, rfl⟩ := own_slice ho
  rw [show zeroM.regs.length = 0 from rfl, show zeroM.data.length = 0 from rfl, show zeroM.stack.length = 0 from rfl, show zeroM.inn.length = 0 from rfl, show zeroM.out.length = 0 from rfl, show zeroM.pc = 0 from rfl, show zeroM.low = 0 from rfl, show zeroM.st = 0 from rfl]
  have zz := hb1.size
  simp only [World.size_alloc] at zz
  have R1 : w1.heap[w.heap.size + 1]? = some (.cells #[.slice none 0 0, .int .u32 0, .slice none 0 0, .slice none 0 0, .slice none 0 0, .slice none 0 0, .int .u32 0, .int .i64 0] 32) := by
    rw [hb1.block _ (by simp)]
    have := heap_alloc_new (w.alloc (.cells #[.slice a len cap, .int .i64 d, .int .i64 bd] 25)) (.cells #[.slice none 0 0, .int .u32 0, .slice none 0 0, .slice none 0 0, .slice none 0 0, .slice none 0 0, .int .u32 0, .int .i64 0] 32)
    simpa only [World.size_alloc] using this
  have BW1 : Below w.heap.size w w1 := HQ.out.2.2.1.trans (hb1.mono (by simp; omega))
  have HV : Hid _ := And.intro R1 BW1
  clear R1 BW1 hb1 HQ hr hd hs hi ho hnd hB hk
  dsimp only
  go_upto_region 2 with fail
  obtain ⟨W, hW⟩ : ∃ W, W = w1.alloc (.cells #[.slice e1 0 f1, .int .u32 0, .slice e2 0 f2, .slice e3 0 f3, .slice e4 0 f4, .slice e5 0 f5, .int .u32 0, .int .i64 0] 32) := ⟨_, rfl⟩
  rw [← hW]
  have X1 : W.heap[w1.heap.size]? = some (.cells #[.slice e1 0 f1, .int .u32 0, .slice e2 0 f2, .slice e3 0 f3, .slice e4 0 f4, .slice e5 0 f5, .int .u32 0, .int .i64 0] 32) := by rw [hW]; exact heap_alloc_new w1 _
  have AW : Below w1.heap.size w1 W := by rw [hW]; exact (Below.refl _ _).alloc (Nat.le_refl _) _
  have R2 := (AW.block _ (by omega)).trans HV.out.1
  have B9 := Bx.of_heap X1
  have RB := Bx.of_heap R2
  obtain ⟨t0, t1, t2, t3, t4, t5, t6, t7, tf⟩ := id B9
  obtain ⟨z0, z1, z2, z3, z4, z5, z6, z7, zf⟩ := id RB
  have HW : Hid _ := HV.out.2.trans (AW.mono (by omega))
  clear X1 AW hW B9 RB R2
  go_wp2
  refine bodyPost_ret (v := .agg #[.slice none 0 0, .int .u32 0, .slice none 0 0, .slice none 0 0, .slice none 0 0, .slice none 0 0, .int .u32 0, .int .i64 0]) (by simp [results, Try.results7, go_sem, z0, z1, z2, z3, z4, z5, z6, z7]) rfl ?_
  exact ⟨_, rfl, cpu_zero _ _, ((Tcs.refl (fun k => k = w.heap.size + 1) _).set8 _ rfl (.slice none 0 0) (.int .u32 0) (.slice none 0 0) (.slice none 0 0) (.slice none 0 0) (.slice none 0 0) (.int .u32 0) (.int .i64 0)).below HW.out HW.out.size (by rintro k rfl; omega)⟩


set_option maxRecDepth 8000 in
set_option maxHeartbeats 1000000 in
theorem run_i_out1 (a : Option Addr) (len cap : Nat) (d bd : Int) (v : Value) (zs codes : List Int) (w : World) (hl : len ≤ 1048576) (hz : zs.length ≤ 2097152) (h : Lis .i64 w v zs) (hc : Lis .u32 w (.slice a len cap) codes) (hcu : ∀ j, j < codes.length → 0 ≤ codes.getD j 0 ∧ codes.getD j 0 ≤ 4294967295) (steps : Int) (hst : steps < 0) (hv : vimg len d bd = true) (ho : okIn zs = true) :
    Calls Try.prog 7 #[.agg #[.slice a len cap, .int .i64 d, .int .i64 bd], v, .int .i64 steps] w fun e w' => ∃ u, e = .returned u ∧ CpuAt w' w.heap.size u zeroM ∧ Below w.heap.size w w' := by
  have B2 : Below w.heap.size w ((w.alloc (.cells #[.slice a len cap, .int .i64 d, .int .i64 bd] 25)).alloc (.cells #[.slice none 0 0, .int .u32 0, .slice none 0 0, .slice none 0 0, .slice none 0 0, .slice none 0 0, .int .u32 0, .int .i64 0] 32)) := ((Below.refl _ _).alloc (Nat.le_refl _) _).alloc (by simp) _
  have HBO := boot_i a len cap d bd v zs ((w.alloc (.cells #[.slice a len cap, .int .i64 d, .int .i64 bd] 25)).alloc (.cells #[.slice none 0 0, .int .u32 0, .slice none 0 0, .slice none 0 0, .slice none 0 0, .slice none 0 0, .int .u32 0, .int .i64 0] 32)) hl hz (h.below B2)
  have hcod := hc.below B2
  have hll := lis_len hc
  have hcb : ∀ g ∈ blk (.slice a len cap), g < w.heap.size := hc.lt
  obtain ⟨hG0, hst9, hmb0, hl2⟩ := boot_good len d bd zs hv ho
  generalize bootM len d bd zs = c0 at *
  have HQ : Hid _ := And.intro HBO (And.intro hcod (And.intro B2 hcb))
  clear HBO hcod B2 h hc hz hcu hl hcb
  have HG : Hid _ := hG0
  clear hG0 hst9 hmb0 hl2 hv ho hll
  go_enter Try.func7, Try.ntmps7
  go_wp2_with fail
  refine HQ.out.1.mono ?_
  rintro e w1 ⟨u1, rfl, hA, hb1⟩
  obtain ⟨L, cv, hLB⟩ := hA.toV
  obtain ⟨g2, o2, q1, m2, m3, m4, m5, p2, q2, p3, q3, p4, q4, p5, q5, rfl, hbk2⟩ := cv.shape32 HG.out.r32
  have zz := hb1.size
  simp only [World.size_alloc] at zz
  have R1 : w1.heap[w.heap.size + 1]? = some (.cells #[.slice none 0 0, .int .u32 0, .slice none 0 0, .slice none 0 0, .slice none 0 0, .slice none 0 0, .int .u32 0, .int .i64 0] 32) := by
    rw [hb1.block _ (by simp)]
    have := heap_alloc_new (w.alloc (.cells #[.slice a len cap, .int .i64 d, .int .i64 bd] 25)) (.cells #[.slice none 0 0, .int .u32 0, .slice none 0 0, .slice none 0 0, .slice none 0 0, .slice none 0 0, .int .u32 0, .int .i64 0] 32)
    simpa only [World.size_alloc] using this
  have BW1 : Below w.heap.size w w1 := HQ.out.2.2.1.trans (hb1.mono (by simp; omega))
  have HV : Hid _ := And.intro R1 BW1
  clear R1 BW1 hA hb1 HQ cv hLB hbk2
  dsimp only
  go_upto_region 2 with fail
  obtain ⟨W, hW⟩ : ∃ W, W = w1.alloc (.cells #[.slice (some ⟨g2, o2, none⟩) 32 q1, .int .u32 c0.pc, .slice p2 m2 q2, .slice p3 m3 q3, .slice p4 m4 q4, .slice p5 m5 q5, .int .u32 c0.low, .int .i64 c0.st] 32) := ⟨_, rfl⟩
  rw [← hW]
  have X1 : W.heap[w1.heap.size]? = some (.cells #[.slice (some ⟨g2, o2, none⟩) 32 q1, .int .u32 c0.pc, .slice p2 m2 q2, .slice p3 m3 q3, .slice p4 m4 q4, .slice p5 m5 q5, .int .u32 c0.low, .int .i64 c0.st] 32) := by rw [hW]; exact heap_alloc_new w1 _
  have AW : Below w1.heap.size w1 W := by rw [hW]; exact (Below.refl _ _).alloc (Nat.le_refl _) _
  have R2 := (AW.block _ (by omega)).trans HV.out.1
  have B9 := Bx.of_heap X1
  have RB := Bx.of_heap R2
  obtain ⟨t0, t1, t2, t3, t4, t5, t6, t7, tf⟩ := id B9
  obtain ⟨z0, z1, z2, z3, z4, z5, z6, z7, zf⟩ := id RB
  have HW : Hid _ := HV.out.2.trans (AW.mono (by omega))
  clear X1 AW hW B9 RB R2
  go_wp2
  refine bodyPost_ret (v := .agg #[.slice none 0 0, .int .u32 0, .slice none 0 0, .slice none 0 0, .slice none 0 0, .slice none 0 0, .int .u32 0, .int .i64 0]) (by simp [results, Try.results7, go_sem, z0, z1, z2, z3, z4, z5, z6, z7]) rfl ?_
  exact ⟨_, rfl, cpu_zero _ _, ((Tcs.refl (fun k => k = w.heap.size + 1) _).set8 _ rfl (.slice none 0 0) (.int .u32 0) (.slice none 0 0) (.slice none 0 0) (.slice none 0 0) (.slice none 0 0) (.int .u32 0) (.int .i64 0)).below HW.out HW.out.size (by rintro k rfl; omega)⟩


set_option maxRecDepth 8000 in
set_option maxHeartbeats 1000000 in
theorem run_i_out2 (a : Option Addr) (len cap : Nat) (d bd : Int) (v : Value) (zs codes : List Int) (w : World) (hl : len ≤ 1048576) (hz : zs.length ≤ 2097152) (h : Lis .i64 w v zs) (hc : Lis .u32 w (.slice a len cap) codes) (hcu : ∀ j, j < codes.length → 0 ≤ codes.getD j 0 ∧ codes.getD j 0 ≤ 4294967295) (steps : Int) (hst0 : 0 ≤ steps) (hst : 1000000 < steps) (hv : vimg len d bd = true) (ho : okIn zs = true) :
    Calls Try.prog 7 #[.agg #[.slice a len cap, .int .i64 d, .int .i64 bd], v, .int .i64 steps] w fun e w' => ∃ u, e = .returned u ∧ CpuAt w' w.heap.size u zeroM ∧ Below w.heap.size w w' := by
  have B2 : Below w.heap.size w ((w.alloc (.cells #[.slice a len cap, .int .i64 d, .int .i64 bd] 25)).alloc (.cells #[.slice none 0 0, .int .u32 0, .slice none 0 0, .slice none 0 0, .slice none 0 0, .slice none 0 0, .int .u32 0, .int .i64 0] 32)) := ((Below.refl _ _).alloc (Nat.le_refl _) _).alloc (by simp) _
  have HBO := boot_i a len cap d bd v zs ((w.alloc (.cells #[.slice a len cap, .int .i64 d, .int .i64 bd] 25)).alloc (.cells #[.slice none 0 0, .int .u32 0, .slice none 0 0, .slice none 0 0, .slice none 0 0, .slice none 0 0, .int .u32 0, .int .i64 0] 32)) hl hz (h.below B2)
  have hcod := hc.below B2
  have hll := lis_len hc
  have hcb : ∀ g ∈ blk (.slice a len cap), g < w.heap.size := hc.lt
  obtain ⟨hG0, hst9, hmb0, hl2⟩ := boot_good len d bd zs hv ho
  generalize bootM len d bd zs = c0 at *
  have HQ : Hid _ := And.intro HBO (And.intro hcod (And.intro B2 hcb))
  clear HBO hcod B2 h hc hz hcu hl hcb
  have HG : Hid _ := hG0
  clear hG0 hst9 hmb0 hl2 hv ho hll
  go_enter Try.func7, Try.ntmps7
  go_wp2_with fail
  refine HQ.out.1.mono ?_
  rintro e w1 ⟨u1, rfl, hA, hb1⟩
  obtain ⟨L, cv, hLB⟩ := hA.toV
  obtain ⟨g2, o2, q1, m2, m3, m4, m5, p2, q2, p3, q3, p4, q4, p5, q5, rfl, hbk2⟩ := cv.shape32 HG.out.r32
  have zz := hb1.size
  simp only [World.size_alloc] at zz
  have R1 : w1.heap[w.heap.size + 1]? = some (.cells #[.slice none 0 0, .int .u32 0, .slice none 0 0, .slice none 0 0, .slice none 0 0, .slice none 0 0, .int .u32 0, .int .i64 0] 32) := by
    rw [hb1.block _ (by simp)]
    have := heap_alloc_new (w.alloc (.cells #[.slice a len cap, .int .i64 d, .int .i64 bd] 25)) (.cells #[.slice none 0 0, .int .u32 0, .slice none 0 0, .slice none 0 0, .slice none 0 0, .slice none 0 0, .int .u32 0, .int .i64 0] 32)
    simpa only [World.size_alloc] using this
  have BW1 : Below w.heap.size w w1 := HQ.out.2.2.1.trans (hb1.mono (by simp; omega))
  have HV : Hid _ := And.intro R1 BW1
  clear R1 BW1 hA hb1 HQ cv hLB hbk2
  dsimp only
  go_upto_region 2 with fail
  obtain ⟨W, hW⟩ : ∃ W, W = w1.alloc (.cells #[.slice (some ⟨g2, o2, none⟩) 32 q1, .int .u32 c0.pc, .slice p2 m2 q2, .slice p3 m3 q3, .slice p4 m4 q4, .slice p5 m5 q5, .int .u32 c0.low, .int .i64 c0.st] 32) := ⟨_, rfl⟩
  rw [← hW]
  have X1 : W.heap[w1.heap.size]? = some (.cells #[.slice (some ⟨g2, o2, none⟩) 32 q1, .int .u32 c0.pc, .slice p2 m2 q2, .slice p3 m3 q3, .slice p4 m4 q4, .slice p5 m5 q5, .int .u32 c0.low, .int .i64 c0.st] 32) := by rw [hW]; exact heap_alloc_new w1 _
  have AW : Below w1.heap.size w1 W := by rw [hW]; exact (Below.refl _ _).alloc (Nat.le_refl _) _
  have R2 := (AW.block _ (by omega)).trans HV.out.1
  have B9 := Bx.of_heap X1
  have RB := Bx.of_heap R2
  obtain ⟨t0, t1, t2, t3, t4, t5, t6, t7, tf⟩ := id B9
  obtain ⟨z0, z1, z2, z3, z4, z5, z6, z7, zf⟩ := id RB
  have HW : Hid _ := HV.out.2.trans (AW.mono (by omega))
  clear X1 AW hW B9 RB R2
  go_wp2
  refine bodyPost_ret (v := .agg #[.slice none 0 0, .int .u32 0, .slice none 0 0, .slice none 0 0, .slice none 0 0, .slice none 0 0, .int .u32 0, .int .i64 0]) (by simp [results, Try.results7, go_sem, z0, z1, z2, z3, z4, z5, z6, z7]) rfl ?_
  exact ⟨_, rfl, cpu_zero _ _, ((Tcs.refl (fun k => k = w.heap.size + 1) _).set8 _ rfl (.slice none 0 0) (.int .u32 0) (.slice none 0 0) (.slice none 0 0) (.slice none 0 0) (.slice none 0 0) (.int .u32 0) (.int .i64 0)).below HW.out HW.out.size (by rintro k rfl; omega)⟩


theorem run_i (a : Option Addr) (len cap : Nat) (d bd : Int) (v : Value) (zs codes : List Int) (w : World) (hl : len ≤ 1048576) (hz : zs.length ≤ 2097152) (h : Lis .i64 w v zs) (hc : Lis .u32 w (.slice a len cap) codes) (hcu : ∀ j, j < codes.length → 0 ≤ codes.getD j 0 ∧ codes.getD j 0 ≤ 4294967295) (steps : Int) :
    Calls Try.prog 7 #[.agg #[.slice a len cap, .int .i64 d, .int .i64 bd], v, .int .i64 steps] w fun e w' => ∃ u, e = .returned u ∧ CpuAt w' w.heap.size u (runRes len d bd zs codes steps) ∧ Below w.heap.size w w' := by
  unfold runRes
  split
  · rename_i hv
    simp only [Bool.and_eq_true] at hv
    split
    · rename_i hs
      unfold stepsOk at hs
      simp only [decide_eq_true_eq] at hs
      obtain ⟨N, rfl⟩ := Int.eq_ofNat_of_zero_le hs.1
      exact run_i_yes a len cap d bd v zs codes w hl hz h hc hcu N (by omega) hv.1 hv.2
    · rename_i hs
      unfold stepsOk at hs
      simp only [decide_eq_true_eq] at hs
      by_cases h1 : steps < 0
      · exact run_i_out1 a len cap d bd v zs codes w hl hz h hc hcu steps h1 hv.1 hv.2
      · exact run_i_out2 a len cap d bd v zs codes w hl hz h hc hcu steps (by omega) (by omega) hv.1 hv.2
  · rename_i hv
    exact run_i_no a len cap d bd v zs codes w hl hz h hc hcu steps (by simpa using hv)

end Go.Proofs.Ytabjcodpagjbjaa

namespace Go.Proofs.Ytabjcodpagjbjaa
open Go.RowKit
set_option linter.unusedVariables false
set_option linter.unusedSectionVars false
set_option linter.unusedSimpArgs false
variable [Inhabited Pick]

/-- The three cells of an image in its box. -/
structure B3 (w : World) (g : Nat) (x0 x1 x2 : Value) : Prop where
  c0 : w.cell? ⟨g, 0, none⟩ = some x0
  c1 : w.cell? ⟨g, 1, none⟩ = some x1
  c2 : w.cell? ⟨g, 2, none⟩ = some x2
theorem B3.keep {w w' : World} {g : Nat} {x0 x1 x2 : Value} (h : B3 w g x0 x1 x2) (hb : w'.heap[g]? = w.heap[g]?) : B3 w' g x0 x1 x2 := by
  have k := fun j => World.cell?_of_block (w := w) (w' := w') (a := ⟨g, j, none⟩) hb
  exact ⟨(k 0).trans h.c0, (k 1).trans h.c1, (k 2).trans h.c2⟩
theorem B3.lt {w : World} {g : Nat} {x0 x1 x2 : Value} (h : B3 w g x0 x1 x2) : g < w.heap.size := World.block_lt_of_cell? _ _ h.c0
theorem B3.below {w w' : World} {g : Nat} {x0 x1 x2 : Value} (h : B3 w g x0 x1 x2) (hb : Below w.heap.size w w') : B3 w' g x0 x1 x2 := h.keep (hb.block g h.lt)
theorem B3.of_heap {w : World} {g : Nat} {t : TypeId} {x0 x1 x2 : Value} (h : w.heap[g]? = some (.cells #[x0, x1, x2] t)) : B3 w g x0 x1 x2 := by
  constructor
  all_goals (simp [World.cell?, h]; done)

theorem vimg_le {n : Nat} {d b : Int} (h : vimg n d b = true) : d ≤ 65536 ∧ b ≤ 1000000 := by
  unfold vimg at h
  simp only [decide_eq_true_eq] at h
  omega
theorem bootM_small (n : Nat) (d b : Int) (zs : List Int) : Small (bootM n d b zs) := by
  unfold bootM
  by_cases h : (vimg n d b && okIn zs) = true
  · rw [if_pos h]
    simp only [Bool.and_eq_true] at h
    have h1 := vimg_le h.1
    have h2 := h.2
    unfold okIn at h2
    simp only [Bool.and_eq_true, decide_eq_true_eq] at h2
    refine ⟨by simp [regs0], ?_, ?_, ?_, ?_⟩ <;> simp <;> omega
  · rw [if_neg h]
    refine ⟨?_, ?_, ?_, ?_, ?_⟩ <;> simp [zeroM]
theorem runRes_small (n : Nat) (d b : Int) (zs codes : List Int) (s : Int) (hl : n = codes.length) (hcu : ∀ j, j < codes.length → 0 ≤ codes.getD j 0 ∧ codes.getD j 0 ≤ 4294967295) : Small (runRes n d b zs codes s) := by
  unfold runRes
  split
  · rename_i hv
    simp only [Bool.and_eq_true] at hv
    split
    · obtain ⟨hG, hst, hmb, hn⟩ := boot_good n d b zs hv.1 hv.2
      have hg := (runM_good codes b (bootM n d b zs) hG hmb ⟨by omega, hcu⟩ s.toNat).1
      have h1 := hg.r32
      have h2 := hg.dl
      have h3 := hg.sl
      have h4 := hg.il
      have h5 := hg.ol
      refine ⟨?_, ?_, ?_, ?_, ?_⟩ <;> omega
    · refine ⟨?_, ?_, ?_, ?_, ?_⟩ <;> simp [zeroM]
  · refine ⟨?_, ?_, ?_, ?_, ?_⟩ <;> simp [zeroM]
set_option maxRecDepth 8000 in
set_option maxHeartbeats 1000000 in
theorem lawRun_yes (a : Option Addr) (cap : Nat) (d bd : Int) (v : Value) (zs is : List Int) (w : World) (hl : zs.length ≤ 1048576) (hi : is.length ≤ 1048576) (hz : Rds .u32 w (.slice a zs.length cap) zs) (hn : Rds .i64 w v is) (st : Int) (hcu : ∀ j, j < zs.length → 0 ≤ zs.getD j 0 ∧ zs.getD j 0 ≤ 4294967295) :
    Calls Try.prog 4 #[.agg #[.slice a zs.length cap, .int .i64 d, .int .i64 bd], v, .int .i64 st] w fun e w' => e = .returned (.bool true) ∧ Below w.heap.size w w' := by
  obtain ⟨ai, ci, rfl, _⟩ := id hn
  have HZ : Hid _ := hz
  have HI : Hid _ := hn
  clear hz hn
  have A0 : Below w.heap.size w (w.alloc (.cells #[.slice a zs.length cap, .int .i64 d, .int .i64 bd] 38)) := (Below.refl _ _).alloc (Nat.le_refl _) _
  have M0 := B3.of_heap (heap_alloc_new w (.cells #[.slice a zs.length cap, .int .i64 d, .int .i64 bd] 38))
  go_enter Try.func4, Try.ntmps4
  go_wp2_with fail
  refine (sz_yes a zs.length cap d bd _ hl).mono ?_
  rintro e w1 ⟨rfl, hb1⟩
  have M1 := M0.below hb1
  have A1 : Below w.heap.size w w1 := A0.trans (hb1.mono (by simp))
  obtain ⟨c0, c1, c2⟩ := id M1
  have HM1 : Hid _ := And.intro M1 A1
  clear M0 A0 hb1 M1 A1
  have hsm : Small (runRes zs.length d bd is zs st) := runRes_small _ _ _ _ _ _ rfl hcu
  have HU : Hid _ := hcu
  clear hcu
  generalize hc : runRes zs.length d bd is zs st = c at *
  have HC : Hid _ := hc
  clear hc
  go_wp2_with fail
  refine (toImage_lis _ d bd zs _ hl (Rds.below HZ.out HM1.out.2)).mono ?_
  rintro e w2 ⟨g2, k2, rfl, l2, o2, hb2⟩
  obtain ⟨M1, A1⟩ := HM1.out
  have M2 := M1.below hb2
  have A2 : Below w.heap.size w w2 := A1.trans (hb2.mono A1.size)
  have G2 : Hid _ := And.intro M2 (And.intro A2 l2)
  clear M1 A1 M2 A2 l2 c0 c1 c2 HM1
  go_wp2_with fail
  refine (to_i64 _ is _ hi (Rds.below HI.out G2.out.2.1)).mono ?_
  rintro e w3 ⟨g3, k3, rfl, ow3, hb3⟩
  obtain ⟨M2, A2, l2⟩ := G2.out
  have M3 := M2.below hb3
  have A3 : Below w.heap.size w w3 := A2.trans (hb3.mono A2.size)
  have G3 : Hid _ := And.intro M3 (And.intro A3 (And.intro (l2.below hb3) (Lis.of_own ow3).1))
  clear M2 A2 M3 A3 l2 ow3 G2 hb2 hb3
  go_wp2_with fail
  refine (run_s _ zs.length _ d bd _ is zs _ hl (by omega) G3.out.2.2.2 (.inr ⟨_, _, _, rfl⟩) G3.out.2.2.1 HU.out st).mono ?_
  rintro e w4 ⟨u0, rfl, cp0, hb4⟩
  rw [HC.out] at cp0
  obtain ⟨M3, A3, _, _⟩ := G3.out
  obtain ⟨x1, y1, x2, y2, x3, y3, x4, y4, x5, y5, rfl⟩ := cp0.shape
  have z4 := heap_alloc_new w4 (.cells #[.slice x1 c.regs.length y1, .int .u32 c.pc, .slice x2 c.data.length y2, .slice x3 c.stack.length y3, .slice x4 c.inn.length y4, .slice x5 c.out.length y5, .int .u32 c.low, .int .i64 c.st] 32)
  have a4 := (Below.refl w4.heap.size w4).alloc (Nat.le_refl _) (.cells #[.slice x1 c.regs.length y1, .int .u32 c.pc, .slice x2 c.data.length y2, .slice x3 c.stack.length y3, .slice x4 c.inn.length y4, .slice x5 c.out.length y5, .int .u32 c.low, .int .i64 c.st] 32)
  have sM : w.heap.size < w4.heap.size := Nat.lt_of_lt_of_le M3.lt hb4.size
  have M4 := (M3.below hb4).below a4
  have A4 : Below w.heap.size w _ := (A3.trans (hb4.mono A3.size)).trans (a4.mono (Nat.le_trans A3.size hb4.size))
  have X4 := Bx.of_heap z4
  obtain ⟨c0, c1, c2⟩ := id M4
  have G4 : Hid _ := And.intro M4 (And.intro A4 (And.intro (cp0.below a4) (And.intro X4 (And.intro hb4.size cp0.cblk))))
  clear M3 A3 M4 A4 cp0 G3 hb4 z4 a4 X4
  go_wp2_with fail
  refine (toImage_lis _ d bd zs _ hl (Rds.below HZ.out G4.out.2.1)).mono ?_
  rintro e w5 ⟨g5, k5, rfl, l5, o5, hb5⟩
  obtain ⟨M4, A4, C4, X4, s4, cb0⟩ := G4.out
  have HC0 : Hid _ := cb0
  clear cb0
  have z5 := heap_alloc_new w5 (.cells #[.slice (some ⟨g5, 0, none⟩) zs.length k5, .int .i64 d, .int .i64 bd] 25)
  have a5 := (Below.refl w5.heap.size w5).alloc (Nat.le_refl _) (.cells #[.slice (some ⟨g5, 0, none⟩) zs.length k5, .int .i64 d, .int .i64 bd] 25)
  have b5 := hb5.trans (a5.mono hb5.size)
  simp only [World.size_alloc] at o5
  have s5 := hb5.size
  simp only [World.size_alloc] at s5
  have gl5 : ∀ g ∈ blk (.slice (some ⟨g5, 0, none⟩) zs.length k5), g < w5.heap.size := l5.lt
  have gx5 : ∀ g ∈ blk (.slice (some ⟨g5, 0, none⟩) zs.length k5), g = g5 := fun g hg => by have := blk_obk hg; simpa [obk] using this
  have M5 := M4.below b5
  have A5 : Below w.heap.size w _ := A4.trans (b5.mono A4.size)
  have Y5 := B3.of_heap z5
  obtain ⟨c0, c1, c2⟩ := id M5
  have G5 : Hid _ := And.intro M5 (And.intro A5 (And.intro (C4.below b5) (And.intro (X4.below b5) (And.intro (l5.below a5) (And.intro Y5 (And.intro gl5 gx5))))))
  clear M4 A4 C4 X4 z5 a5 b5 M5 A5 Y5 l5 hb5 G4 gl5 gx5
  go_wp2_with fail
  refine (to_i64 _ is _ hi (Rds.below HI.out G5.out.2.1)).mono ?_
  rintro e w6 ⟨g6, k6, rfl, ow6, hb6⟩
  obtain ⟨M5, A5, C5, X5, l5, Y5, gl5, gx5⟩ := G5.out
  have s6 := hb6.size
  simp only [World.size_alloc] at s6
  have o6 := own_obk ow6
  simp only [obk, List.mem_singleton, forall_eq, World.size_alloc] at o6
  have Y6 := Y5.below hb6
  obtain ⟨e0, e1, e2⟩ := id Y6
  have G6 : Hid _ := And.intro (M5.below hb6) (And.intro (A5.trans (hb6.mono A5.size)) (And.intro (C5.below hb6) (And.intro (X5.below hb6) (And.intro (l5.below hb6) (And.intro Y6 (And.intro gl5 (And.intro gx5 (Lis.of_own ow6).1)))))))
  clear M5 A5 C5 X5 l5 Y5 gl5 gx5 Y6 ow6 hb6 G5 c0 c1 c2
  go_wp2_with fail
  refine (run_i _ zs.length _ d bd _ is zs _ hl (by omega) G6.out.2.2.2.2.2.2.2.2 G6.out.2.2.2.2.1 HU.out st).mono ?_
  rintro e w7 ⟨u7, rfl, cp7, hb7⟩
  rw [HC.out] at cp7
  obtain ⟨p1, q1, p2, q2, p3, q3, p4, q4, p5, q5, rfl⟩ := cp7.shape
  obtain ⟨M6, A6, C6, X6, l6, Y6, gl5, gx5, l6'⟩ := G6.out
  have z7 := heap_alloc_new w7 (.cells #[.slice p1 c.regs.length q1, .int .u32 c.pc, .slice p2 c.data.length q2, .slice p3 c.stack.length q3, .slice p4 c.inn.length q4, .slice p5 c.out.length q5, .int .u32 c.low, .int .i64 c.st] 32)
  have a7 := (Below.refl w7.heap.size w7).alloc (Nat.le_refl _) (.cells #[.slice p1 c.regs.length q1, .int .u32 c.pc, .slice p2 c.data.length q2, .slice p3 c.stack.length q3, .slice p4 c.inn.length q4, .slice p5 c.out.length q5, .int .u32 c.low, .int .i64 c.st] 32)
  have b7 := hb7.trans (a7.mono hb7.size)
  have s7 := hb7.size
  have X7 := X6.below b7
  have Z7 := Bx.of_heap z7
  obtain ⟨c0, c1, c2, c3, c4, c5, c6, c7, cf⟩ := id X7
  obtain ⟨e0, e1, e2, e3, e4, e5, e6, e7, ef⟩ := id Z7
  have G7 : Hid _ := And.intro (M6.below b7) (And.intro (A6.trans (b7.mono A6.size)) (And.intro (C6.below b7) (And.intro X7 (And.intro (l6.below b7) (And.intro (Y6.below b7) (And.intro gl5 (And.intro gx5 (And.intro (l6'.below b7) (And.intro (cp7.below a7) (And.intro Z7 cp7.cblk))))))))))
  clear M6 A6 C6 X6 l6 Y6 gl5 gx5 l6' z7 a7 b7 hb7 X7 Z7 cp7 G6
  go_wp2_with fail
  refine (eqCpu_any _ _ c _ _ _ hsm G7.out.2.2.2.2.2.2.2.2.2.1 G7.out.2.2.1).mono ?_
  rintro e w8 ⟨rfl, hb8⟩
  obtain ⟨M7, A7, C7, X7, l7, Y7, gl5, gx5, l7', D7, Z7, mb⟩ := G7.out
  have s8 := hb8.size
  simp only [World.size_alloc] at s8
  have Y8 := Y7.below hb8
  have M8 := M7.below hb8
  have A8 : Below w.heap.size w w8 := A7.trans (hb8.mono A7.size)
  have l8 := l7.below hb8
  have KS : (w8.cell? ⟨w5.heap.size, 0, none⟩ = some (.slice (some ⟨g5, 0, none⟩) zs.length k5) ∧ w8.cell? ⟨w5.heap.size, 1, none⟩ = some (.int .i64 d) ∧ w8.cell? ⟨w5.heap.size, 2, none⟩ = some (.int .i64 bd)) ∧ (w8.cell? ⟨w.heap.size, 0, none⟩ = some (.slice a zs.length cap) ∧ w8.cell? ⟨w.heap.size, 1, none⟩ = some (.int .i64 d) ∧ w8.cell? ⟨w.heap.size, 2, none⟩ = some (.int .i64 bd)) := ⟨⟨Y8.c0, Y8.c1, Y8.c2⟩, M8.c0, M8.c1, M8.c2⟩
  have HT : Hid (∀ W, Below w8.heap.size w8 W → Calls Try.prog 14 #[.agg #[.slice a zs.length cap, .int .i64 d, .int .i64 bd]] W fun e w' => ∃ g k, e = .returned (.agg #[.slice (some ⟨g, 0, none⟩) zs.length k, .int .i64 d, .int .i64 bd]) ∧ Rds .u32 w' (.slice (some ⟨g, 0, none⟩) zs.length k) zs ∧ Below w8.heap.size w8 w' ∧
      ((w'.cell? ⟨w5.heap.size, 0, none⟩ = some (.slice (some ⟨g5, 0, none⟩) zs.length k5) ∧ w'.cell? ⟨w5.heap.size, 1, none⟩ = some (.int .i64 d) ∧ w'.cell? ⟨w5.heap.size, 2, none⟩ = some (.int .i64 bd)) ∧ (w'.cell? ⟨w.heap.size, 0, none⟩ = some (.slice a zs.length cap) ∧ w'.cell? ⟨w.heap.size, 1, none⟩ = some (.int .i64 d) ∧ w'.cell? ⟨w.heap.size, 2, none⟩ = some (.int .i64 bd)))) := by
    intro W hW
    refine (toImage_lis _ d bd zs W hl (Rds.below HZ.out (A8.trans (hW.mono A8.size)))).mono ?_
    rintro e w9 ⟨g9, k9, rfl, l9, o9, hb9⟩
    have hW9 := hW.trans (hb9.mono hW.size)
    have Y9 := Y8.below hW9
    have M9 := M8.below hW9
    exact ⟨g9, k9, rfl, l9.rds, hW9, ⟨Y9.c0, Y9.c1, Y9.c2⟩, M9.c0, M9.c1, M9.c2⟩
  have HE : Hid (∀ (g k : Nat) (W : World), Rds .u32 W (.slice (some ⟨g, 0, none⟩) zs.length k) zs → Below w8.heap.size w8 W →
      Calls Try.prog 17 #[.agg #[.slice (some ⟨g5, 0, none⟩) zs.length k5, .int .i64 d, .int .i64 bd], .agg #[.slice (some ⟨g, 0, none⟩) zs.length k, .int .i64 d, .int .i64 bd]] W fun e w' => e = .returned (.bool true) ∧ Below w8.heap.size w8 w' ∧ ((w'.cell? ⟨w5.heap.size, 0, none⟩ = some (.slice (some ⟨g5, 0, none⟩) zs.length k5) ∧ w'.cell? ⟨w5.heap.size, 1, none⟩ = some (.int .i64 d) ∧ w'.cell? ⟨w5.heap.size, 2, none⟩ = some (.int .i64 bd)) ∧ (w'.cell? ⟨w.heap.size, 0, none⟩ = some (.slice a zs.length cap) ∧ w'.cell? ⟨w.heap.size, 1, none⟩ = some (.int .i64 d) ∧ w'.cell? ⟨w.heap.size, 2, none⟩ = some (.int .i64 bd)))) := by
    intro g k W h hW
    refine (eqImage_lis _ _ d bd zs W hl (l8.below hW).rds h).mono fun e w' ⟨he, hb⟩ => ?_
    have hW9 := hW.trans (hb.mono hW.size)
    have Y9 := Y8.below hW9
    have M9 := M8.below hW9
    exact ⟨he, hW9, ⟨Y9.c0, Y9.c1, Y9.c2⟩, M9.c0, M9.c1, M9.c2⟩
  have G8 : Hid _ := And.intro M8 (And.intro A8 (And.intro (C7.below hb8) (And.intro (X7.below hb8) (And.intro l8 (And.intro Y8 (And.intro gl5 (And.intro gx5 (And.intro (l7'.below hb8) (And.intro (D7.below hb8) (And.intro (Z7.below hb8) mb))))))))))
  clear M7 A7 C7 X7 l7 Y7 gl5 gx5 l7' D7 Z7 mb Y8 M8 A8 l8 hb8 G7 c0 c1 c2 c3 c4 c5 c6 c7 cf e0 e1 e2 e3 e4 e5 e6 e7 ef
  go_wp2_with fail
  go_region_held3 (fun W => ((W.cell? ⟨w5.heap.size, 0, none⟩ = some (.slice (some ⟨g5, 0, none⟩) zs.length k5) ∧ W.cell? ⟨w5.heap.size, 1, none⟩ = some (.int .i64 d) ∧ W.cell? ⟨w5.heap.size, 2, none⟩ = some (.int .i64 bd)) ∧ (W.cell? ⟨w.heap.size, 0, none⟩ = some (.slice a zs.length cap) ∧ W.cell? ⟨w.heap.size, 1, none⟩ = some (.int .i64 d) ∧ W.cell? ⟨w.heap.size, 2, none⟩ = some (.int .i64 bd)))) (first | exact KS | assumption)
    (first
    | (go_at_call 14; refine (HT.out _ ?_).mono ?_; (first | exact (Below.refl _ _).drew | exact Below.refl _ _); rintro e w9 ⟨g9, k9, rfl, l9, B9, k9'⟩)
    | (go_at_call 17; refine (HE.out _ _ _ ?_ ?_).mono ?_; (first | assumption | exact l9); (first | assumption | exact B9); rintro e w10 ⟨rfl, B10, k10'⟩))
  obtain ⟨M8, A8, C8, X8, l8, Y8, gl5, gx5, l8', D8, Z8, cb7⟩ := G8.out
  have HC7 : Hid _ := cb7
  have HG : Hid _ := And.intro gl5 gx5
  have G10 : Hid _ := And.intro (M8.below B10) (And.intro (A8.trans (B10.mono A8.size)) (And.intro (C8.below B10) (And.intro (X8.below B10) (And.intro (l8.below B10) (And.intro (Y8.below B10) (And.intro (l8'.below B10) (And.intro (D8.below B10) (Z8.below B10))))))))
  have s10 := B10.size
  clear M8 A8 C8 X8 l8 Y8 gl5 gx5 l8' D8 Z8 cb7 G8 KS HT HE k10' B10
  go_wp2_with fail
  refine (to_i64 _ is _ hi (Rds.below HI.out G10.out.2.1)).mono ?_
  rintro e w11 ⟨g11, k11, rfl, ow11, hb11⟩
  obtain ⟨M10, A10, C10, X10, l10, Y10, l10', D10, Z10⟩ := G10.out
  have G11 : Hid _ := And.intro (M10.below hb11) (And.intro (A10.trans (hb11.mono A10.size)) (And.intro (C10.below hb11) (And.intro (X10.below hb11) (And.intro (l10.below hb11) (And.intro (Y10.below hb11) (And.intro (l10'.below hb11) (And.intro (D10.below hb11) (And.intro (Z10.below hb11) (Lis.of_own ow11).1))))))))
  have s11 := hb11.size
  clear M10 A10 C10 X10 l10 Y10 l10' D10 Z10 hb11 ow11 G10
  go_wp2_with fail
  refine (eq_i64 _ _ is _ (by omega) G11.out.2.2.2.2.2.2.1.rds G11.out.2.2.2.2.2.2.2.2.2.rds).mono ?_
  rintro e w12 ⟨rfl, n12, rfl⟩
  obtain ⟨M11, A11, C11, X11, l11, Y11, l11', D11, Z11, _⟩ := G11.out
  have b12 := below_drewN (Below.refl w11.heap.size w11) n12
  have Y12 := Y11.below b12
  obtain ⟨e0, e1, e2⟩ := id Y12
  have G12 : Hid _ := And.intro (M11.below b12) (And.intro (A11.trans (b12.mono A11.size)) (And.intro (C11.below b12) (And.intro (X11.below b12) (And.intro (l11.below b12) (And.intro (l11'.below b12) (And.intro (D11.below b12) (Z11.below b12)))))))
  clear M11 A11 C11 X11 l11 Y11 l11' D11 Z11 b12 Y12 G11
  go_wp2_with fail
  refine (markImage_lis _ d bd 1 zs _ hl (by omega) G12.out.2.2.2.2.1).mono ?_
  rintro e w13 ⟨rfl, t13⟩
  obtain ⟨M12, A12, C12, X12, l12, l12', D12, Z12⟩ := G12.out
  have lx : ∀ g ∈ blk (.slice (some ⟨g5, 0, none⟩) zs.length k5), g = g5 ∧ g < w5.heap.size := fun g hg => ⟨HG.out.2 g hg, HG.out.1 g hg⟩
  have ly : ∀ g ∈ blk (.slice (some ⟨g6, 0, none⟩) is.length k6), g = g6 := fun g hg => by have := blk_obk hg; simpa [obk] using this
  have M13 := M12.keep (t13.block _ M12.lt (fun hg => by have := lx _ hg; omega))
  have A13 : Below w.heap.size w w13 := t13.below A12 A12.size (fun k hk => by have := lx _ hk; omega)
  have C13 := C12.tcs2 t13 (fun g hg hk => by have h1 := lx _ hk; have h2 := HC0.out g hg; omega)
  have X13 := X12.keep (t13.block _ X12.lt (fun hg => by have := lx _ hg; omega))
  have l13' := l12'.tcs t13 (fun g hg hk => by have h1 := lx _ hk; have h2 := ly g hg; omega)
  have D13 := D12.tcs2 t13 (fun g hg hk => by have h1 := lx _ hk; have h2 := HC7.out g hg; omega)
  have Z13 := Z12.keep (t13.block _ Z12.lt (fun hg => by have := lx _ hg; omega))
  have s13 := t13.size
  have G13 : Hid _ := And.intro M13 (And.intro A13 (And.intro C13 (And.intro X13 (And.intro l13' (And.intro D13 (And.intro Z13 ly))))))
  clear M12 A12 C12 X12 l12 l12' D12 Z12 M13 A13 C13 X13 l13' D13 Z13 t13 lx ly G12 e0 e1 e2
  go_wp2_with fail
  refine (mark_i64 _ is _ _ (by omega) (by omega) G13.out.2.2.2.2.1).mono ?_
  rintro e w14 ⟨rfl, _, t14⟩
  obtain ⟨M13, A13, C13, X13, l13', D13, Z13, ly⟩ := G13.out
  have M14 := M13.keep (t14.block _ M13.lt (fun hg => by have := ly _ hg; omega))
  have A14 : Below w.heap.size w w14 := t14.below A13 A13.size (fun k hk => by have := ly _ hk; omega)
  have C14 := C13.tcs2 t14 (fun g hg hk => by have h1 := ly _ hk; have h2 := HC0.out g hg; omega)
  have X14 := X13.keep (t14.block _ X13.lt (fun hg => by have := ly _ hg; omega))
  have D14 := D13.tcs2 t14 (fun g hg hk => by have h1 := ly _ hk; have h2 := HC7.out g hg; omega)
  have Z14 := Z13.keep (t14.block _ Z13.lt (fun hg => by have := ly _ hg; omega))
  obtain ⟨c0, c1, c2, c3, c4, c5, c6, c7, cf⟩ := id X14
  obtain ⟨e0, e1, e2, e3, e4, e5, e6, e7, ef⟩ := id Z14
  have G14 : Hid _ := And.intro M14 (And.intro A14 (And.intro C14 (And.intro X14 (And.intro D14 Z14))))
  clear M13 A13 C13 X13 l13' D13 Z13 ly t14 M14 A14 C14 X14 D14 Z14 G13
  go_wp2_with fail
  refine (eqCpu_any _ _ c _ _ _ hsm G14.out.2.2.2.2.1 G14.out.2.2.1).mono ?_
  rintro e w15 ⟨rfl, hb15⟩
  obtain ⟨M14, A14, C14, X14, D14, Z14⟩ := G14.out
  have Z15 := Z14.below hb15
  have s15 := hb15.size
  obtain ⟨e0, e1, e2, e3, e4, e5, e6, e7, ef⟩ := id Z15
  have G15 : Hid _ := And.intro (M14.below hb15) (And.intro (A14.trans (hb15.mono A14.size)) (And.intro (C14.below hb15) (And.intro (X14.below hb15) (And.intro (D14.below hb15) Z15))))
  clear M14 A14 C14 X14 D14 Z14 Z15 hb15 G14 c0 c1 c2 c3 c4 c5 c6 c7 cf
  go_wp2_with fail
  refine (markCpu_any _ c _ 1 _ hsm (by omega) G15.out.2.2.2.2.1).mono ?_
  rintro e w16 ⟨rfl, mk16, t16⟩
  obtain ⟨M15, A15, C15, X15, D15, Z15⟩ := G15.out
  have lz : ∀ g ∈ mblk (.agg #[.slice p1 c.regs.length q1, .int .u32 c.pc, .slice p2 c.data.length q2, .slice p3 c.stack.length q3, .slice p4 c.inn.length q4, .slice p5 c.out.length q5, .int .u32 c.low, .int .i64 c.st]), w6.heap.size ≤ g ∧ g < w7.heap.size := fun g hg => HC7.out g (mblk_cblk hg)
  have M16 := M15.keep (t16.block _ M15.lt (fun hg => by have := lz _ hg; omega))
  have A16 : Below w.heap.size w w16 := t16.below A15 A15.size (fun k hk => by have := lz _ hk; omega)
  have C16 := C15.tcs2 t16 (fun g hg hk => by have h1 := lz _ hk; have h2 := HC0.out g hg; omega)
  have X16 := X15.keep (t16.block _ X15.lt (fun hg => by have := lz _ hg; omega))
  have Z16 := Z15.keep (t16.block _ Z15.lt (fun hg => by have := lz _ hg; omega))
  have s16 := t16.size
  obtain ⟨e0, e1, e2, e3, e4, e5, e6, e7, ef⟩ := id Z16
  have G16 : Hid _ := And.intro M16 (And.intro A16 (And.intro C16 (And.intro X16 mk16)))
  clear M15 A15 C15 X15 D15 Z15 lz M16 A16 C16 X16 Z16 mk16 t16 G15
  go_wp2_with fail
  refine (heldCpu_any _ _ _ _ _ _ 1 _ hsm (by omega) G16.out.2.2.2.2).mono ?_
  rintro e w17 ⟨rfl, hb17⟩
  obtain ⟨M16, A16, C16, X16, mk16⟩ := G16.out
  have M17 := M16.below hb17
  have s17 := hb17.size
  obtain ⟨c0, c1, c2⟩ := id M17
  have G17 : Hid _ := And.intro M17 (And.intro (A16.trans (hb17.mono A16.size)) (And.intro (C16.below hb17) (X16.below hb17)))
  have hp : (0 : Int) ≤ 1 + c.regs.length + c.data.length + c.stack.length + c.inn.length + c.out.length := by omega
  clear M16 A16 C16 X16 mk16 hb17 M17 G16 e0 e1 e2 e3 e4 e5 e6 e7 ef
  go_wp2_with fail
  refine (toImage_lis _ d bd zs _ hl (Rds.below HZ.out G17.out.2.1)).mono ?_
  rintro e w18 ⟨g18, k18, rfl, l18, o18, hb18⟩
  obtain ⟨M17, A17, C17, X17⟩ := G17.out
  have G18 : Hid _ := And.intro (A17.trans (hb18.mono A17.size)) (And.intro (C17.below hb18) (And.intro (X17.below hb18) l18))
  clear M17 A17 C17 X17 hb18 l18 G17 c0 c1 c2
  go_wp2_with fail
  refine (to_i64 _ is _ hi (Rds.below HI.out G18.out.1)).mono ?_
  rintro e w19 ⟨g19, k19, rfl, ow19, hb19⟩
  obtain ⟨A18, C18, X18, l18⟩ := G18.out
  have G19 : Hid _ := And.intro (A18.trans (hb19.mono A18.size)) (And.intro (C18.below hb19) (And.intro (X18.below hb19) (And.intro (Lis.of_own ow19).1 (l18.below hb19))))
  clear A18 C18 X18 l18 hb19 ow19 G18
  go_wp2_with fail
  refine (run_i _ zs.length _ d bd _ is zs _ hl (by omega) G19.out.2.2.2.1 G19.out.2.2.2.2 HU.out st).mono ?_
  rintro e w20 ⟨u20, rfl, cp20, hb20⟩
  rw [HC.out] at cp20
  obtain ⟨m1, n1, m2, n2, m3, n3, m4, n4, m5, n5, rfl⟩ := cp20.shape
  obtain ⟨A19, C19, X19, _⟩ := G19.out
  have z20 := heap_alloc_new w20 (.cells #[.slice m1 c.regs.length n1, .int .u32 c.pc, .slice m2 c.data.length n2, .slice m3 c.stack.length n3, .slice m4 c.inn.length n4, .slice m5 c.out.length n5, .int .u32 c.low, .int .i64 c.st] 32)
  have a20 := (Below.refl w20.heap.size w20).alloc (Nat.le_refl _) (.cells #[.slice m1 c.regs.length n1, .int .u32 c.pc, .slice m2 c.data.length n2, .slice m3 c.stack.length n3, .slice m4 c.inn.length n4, .slice m5 c.out.length n5, .int .u32 c.low, .int .i64 c.st] 32)
  have b20 := hb20.trans (a20.mono hb20.size)
  have X20 := X19.below b20
  obtain ⟨c0, c1, c2, c3, c4, c5, c6, c7, cf⟩ := id X20
  have G20 : Hid _ := And.intro (A19.trans (b20.mono A19.size)) (And.intro (C19.below b20) (cp20.below a20))
  clear A19 C19 X19 z20 a20 b20 X20 hb20 cp20 G19
  go_wp2_with fail
  refine (eqCpu_any _ _ c _ _ _ hsm G20.out.2.2 G20.out.2.1).mono ?_
  rintro e w21 ⟨rfl, hb21⟩
  have A21 : Hid _ := G20.out.1.trans (hb21.mono G20.out.1.size)
  clear hb21 c0 c1 c2 c3 c4 c5 c6 c7 cf
  go_wp2
  go_ret
  exact ⟨rfl, A21.out⟩

set_option maxHeartbeats 1000000 in
theorem lawRun_no1 (a ai : Option Addr) (len cap n ci : Nat) (d bd st : Int) (w : World) (hn : 1048576 < n) (hm : n ≤ 9223372036854775807) :
    Calls Try.prog 4 #[.agg #[.slice a len cap, .int .i64 d, .int .i64 bd], .slice ai n ci, .int .i64 st] w fun e w' => e = .returned (.bool true) ∧ Below w.heap.size w w' := by
  go_enter Try.func4, Try.ntmps4
  go_wp2
  go_ret
  exact ⟨rfl, (Below.refl _ _).alloc (Nat.le_refl _) _⟩
set_option maxHeartbeats 1000000 in
theorem lawRun_no2 (a ai : Option Addr) (len cap n ci : Nat) (d bd st : Int) (w : World) (hn : n ≤ 1048576) (hl : 1048576 < len) (hm : len ≤ 9223372036854775807) :
    Calls Try.prog 4 #[.agg #[.slice a len cap, .int .i64 d, .int .i64 bd], .slice ai n ci, .int .i64 st] w fun e w' => e = .returned (.bool true) ∧ Below w.heap.size w w' := by
  go_enter Try.func4, Try.ntmps4
  go_wp2_with fail
  refine (sz_no a len cap d bd _ hl hm).mono ?_
  rintro e w1 ⟨rfl, hb⟩
  go_wp2
  go_ret
  exact ⟨rfl, ((Below.refl _ _).alloc (Nat.le_refl _) _).trans (hb.mono (by simp))⟩

end Go.Proofs.Ytabjcodpagjbjaa
