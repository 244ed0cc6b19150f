import Derived.Deep.Cut
import Derived.Test.YtffihdllalnncaaM52
import Derived.Test.YtffihdllalnncaaM44
import Derived.Test.YtffihdllalnncaaM45
import Derived.Test.YtffihdllalnncaaM50
namespace Go.Proofs.Ytffihdllalnncaa
open Go.RowKit
set_option linter.unusedVariables false
set_option linter.unusedSimpArgs false

set_option maxRecDepth 8000 in
set_option maxHeartbeats 1000000 in
theorem run_i_no (a : Option Addr) (len cap : Nat) (d bd : Int) (v : Value) (zs codes : List Int) (w : World) (hl : len ≤ 1048576) (hz : zs.length ≤ 2097152) (h : Lis .i64 w v zs) (hc : Lis .u32 w (.slice a len cap) codes) (hcu : ∀ j, j < codes.length → 0 ≤ codes.getD j 0 ∧ codes.getD j 0 ≤ 4294967295) (steps : Int) (hv : (vimg len d bd && okIn zs) = false) :
    Calls Try.prog 7 #[.agg #[.slice a len cap, .int .i64 d, .int .i64 bd], v, .int .i64 steps] w fun e w' => ∃ u, e = .returned u ∧ CpuAt w' w.heap.size u zeroM ∧ Below w.heap.size w w' := by
  have B2 : Below w.heap.size w ((w.alloc (.cells #[.slice a len cap, .int .i64 d, .int .i64 bd] 25)).alloc (.cells #[.slice none 0 0, .int .u32 0, .slice none 0 0, .slice none 0 0, .slice none 0 0, .slice none 0 0, .int .u32 0, .int .i64 0] 32)) := ((Below.refl _ _).alloc (Nat.le_refl _) _).alloc (by simp) _
  have HBO := boot_i a len cap d bd v zs ((w.alloc (.cells #[.slice a len cap, .int .i64 d, .int .i64 bd] 25)).alloc (.cells #[.slice none 0 0, .int .u32 0, .slice none 0 0, .slice none 0 0, .slice none 0 0, .slice none 0 0, .int .u32 0, .int .i64 0] 32)) hl hz (h.below B2)
  have hcod := hc.below B2
  have hll := lis_len hc
  have hcb : ∀ g ∈ blk (.slice a len cap), g < w.heap.size := hc.lt
  have hbm : bootM len d bd zs = zeroM := by unfold bootM; rw [hv]; rfl
  rw [hbm] at HBO
  have HQ : Hid _ := And.intro HBO (And.intro hcod (And.intro B2 hcb))
  clear HBO hcod B2 h hc hz hcu hl hcb
  clear hv hbm hll
  go_enter Try.func7, Try.ntmps7
  go_wp2_with fail
  refine HQ.out.1.mono ?_
  rintro e w1 ⟨u1, rfl, hA, hb1⟩
  obtain ⟨r, dd, s, i, o, rfl, hr, hd, hs, hi, ho, hnd, hB, hk⟩ := hA
  obtain ⟨e1, f1, rfl⟩ := hr.len0
  obtain ⟨e2, f2, rfl⟩ := hd.len0
  obtain ⟨e3, f3, rfl⟩ := hs.len0
  obtain ⟨e4, f4, rfl⟩ := hi.len0
  obtain ⟨e5, f5, rfl⟩ := own_slice ho
  rw [show zeroM.regs.length = 0 from rfl, show zeroM.data.length = 0 from rfl, show zeroM.stack.length = 0 from rfl, show zeroM.inn.length = 0 from rfl, show zeroM.out.length = 0 from rfl, show zeroM.pc = 0 from rfl, show zeroM.low = 0 from rfl, show zeroM.st = 0 from rfl]
  have zz := hb1.size
  simp only [World.size_alloc] at zz
  have R1 : w1.heap[w.heap.size + 1]? = some (.cells #[.slice none 0 0, .int .u32 0, .slice none 0 0, .slice none 0 0, .slice none 0 0, .slice none 0 0, .int .u32 0, .int .i64 0] 32) := by
    rw [hb1.block _ (by simp)]
    have := heap_alloc_new (w.alloc (.cells #[.slice a len cap, .int .i64 d, .int .i64 bd] 25)) (.cells #[.slice none 0 0, .int .u32 0, .slice none 0 0, .slice none 0 0, .slice none 0 0, .slice none 0 0, .int .u32 0, .int .i64 0] 32)
    simpa only [World.size_alloc] using this
  have BW1 : Below w.heap.size w w1 := HQ.out.2.2.1.trans (hb1.mono (by simp; omega))
  have HV : Hid _ := And.intro R1 BW1
  clear R1 BW1 hb1 HQ hr hd hs hi ho hnd hB hk
  dsimp only
  go_upto_region 2 with fail
  obtain ⟨W, hW⟩ : ∃ W, W = w1.alloc (.cells #[.slice e1 0 f1, .int .u32 0, .slice e2 0 f2, .slice e3 0 f3, .slice e4 0 f4, .slice e5 0 f5, .int .u32 0, .int .i64 0] 32) := ⟨_, rfl⟩
  rw [← hW]
  have X1 : W.heap[w1.heap.size]? = some (.cells #[.slice e1 0 f1, .int .u32 0, .slice e2 0 f2, .slice e3 0 f3, .slice e4 0 f4, .slice e5 0 f5, .int .u32 0, .int .i64 0] 32) := by rw [hW]; exact heap_alloc_new w1 _
  have AW : Below w1.heap.size w1 W := by rw [hW]; exact (Below.refl _ _).alloc (Nat.le_refl _) _
  have R2 := (AW.block _ (by omega)).trans HV.out.1
  have B9 := Bx.of_heap X1
  have RB := Bx.of_heap R2
  obtain ⟨t0, t1, t2, t3, t4, t5, t6, t7, tf⟩ := id B9
  obtain ⟨z0, z1, z2, z3, z4, z5, z6, z7, zf⟩ := id RB
  have HW : Hid _ := HV.out.2.trans (AW.mono (by omega))
  clear X1 AW hW B9 RB R2
  go_wp2
  refine bodyPost_ret (v := .agg #[.slice none 0 0, .int .u32 0, .slice none 0 0, .slice none 0 0, .slice none 0 0, .slice none 0 0, .int .u32 0, .int .i64 0]) (by simp [results, Try.results7, go_sem, z0, z1, z2, z3, z4, z5, z6, z7]) rfl ?_
  exact ⟨_, rfl, cpu_zero _ _, ((Tcs.refl (fun k => k = w.heap.size + 1) _).set8 _ rfl (.slice none 0 0) (.int .u32 0) (.slice none 0 0) (.slice none 0 0) (.slice none 0 0) (.slice none 0 0) (.int .u32 0) (.int .i64 0)).below HW.out HW.out.size (by rintro k rfl; omega)⟩


set_option maxRecDepth 8000 in
set_option maxHeartbeats 1000000 in
theorem run_i_out1 (a : Option Addr) (len cap : Nat) (d bd : Int) (v : Value) (zs codes : List Int) (w : World) (hl : len ≤ 1048576) (hz : zs.length ≤ 2097152) (h : Lis .i64 w v zs) (hc : Lis .u32 w (.slice a len cap) codes) (hcu : ∀ j, j < codes.length → 0 ≤ codes.getD j 0 ∧ codes.getD j 0 ≤ 4294967295) (steps : Int) (hst : steps < 0) (hv : vimg len d bd = true) (ho : okIn zs = true) :
    Calls Try.prog 7 #[.agg #[.slice a len cap, .int .i64 d, .int .i64 bd], v, .int .i64 steps] w fun e w' => ∃ u, e = .returned u ∧ CpuAt w' w.heap.size u zeroM ∧ Below w.heap.size w w' := by
  have B2 : Below w.heap.size w ((w.alloc (.cells #[.slice a len cap, .int .i64 d, .int .i64 bd] 25)).alloc (.cells #[.slice none 0 0, .int .u32 0, .slice none 0 0, .slice none 0 0, .slice none 0 0, .slice none 0 0, .int .u32 0, .int .i64 0] 32)) := ((Below.refl _ _).alloc (Nat.le_refl _) _).alloc (by simp) _
  have HBO := boot_i a len cap d bd v zs ((w.alloc (.cells #[.slice a len cap, .int .i64 d, .int .i64 bd] 25)).alloc (.cells #[.slice none 0 0, .int .u32 0, .slice none 0 0, .slice none 0 0, .slice none 0 0, .slice none 0 0, .int .u32 0, .int .i64 0] 32)) hl hz (h.below B2)
  have hcod := hc.below B2
  have hll := lis_len hc
  have hcb : ∀ g ∈ blk (.slice a len cap), g < w.heap.size := hc.lt
  obtain ⟨hG0, hst9, hmb0, hl2⟩ := boot_good len d bd zs hv ho
  generalize bootM len d bd zs = c0 at *
  have HQ : Hid _ := And.intro HBO (And.intro hcod (And.intro B2 hcb))
  clear HBO hcod B2 h hc hz hcu hl hcb
  have HG : Hid _ := hG0
  clear hG0 hst9 hmb0 hl2 hv ho hll
  go_enter Try.func7, Try.ntmps7
  go_wp2_with fail
  refine HQ.out.1.mono ?_
  rintro e w1 ⟨u1, rfl, hA, hb1⟩
  obtain ⟨L, cv, hLB⟩ := hA.toV
  obtain ⟨g2, o2, q1, m2, m3, m4, m5, p2, q2, p3, q3, p4, q4, p5, q5, rfl, hbk2⟩ := cv.shape32 HG.out.r32
  have zz := hb1.size
  simp only [World.size_alloc] at zz
  have R1 : w1.heap[w.heap.size + 1]? = some (.cells #[.slice none 0 0, .int .u32 0, .slice none 0 0, .slice none 0 0, .slice none 0 0, .slice none 0 0, .int .u32 0, .int .i64 0] 32) := by
    rw [hb1.block _ (by simp)]
    have := heap_alloc_new (w.alloc (.cells #[.slice a len cap, .int .i64 d, .int .i64 bd] 25)) (.cells #[.slice none 0 0, .int .u32 0, .slice none 0 0, .slice none 0 0, .slice none 0 0, .slice none 0 0, .int .u32 0, .int .i64 0] 32)
    simpa only [World.size_alloc] using this
  have BW1 : Below w.heap.size w w1 := HQ.out.2.2.1.trans (hb1.mono (by simp; omega))
  have HV : Hid _ := And.intro R1 BW1
  clear R1 BW1 hA hb1 HQ cv hLB hbk2
  dsimp only
  go_upto_region 2 with fail
  obtain ⟨W, hW⟩ : ∃ W, W = w1.alloc (.cells #[.slice (some ⟨g2, o2, none⟩) 32 q1, .int .u32 c0.pc, .slice p2 m2 q2, .slice p3 m3 q3, .slice p4 m4 q4, .slice p5 m5 q5, .int .u32 c0.low, .int .i64 c0.st] 32) := ⟨_, rfl⟩
  rw [← hW]
  have X1 : W.heap[w1.heap.size]? = some (.cells #[.slice (some ⟨g2, o2, none⟩) 32 q1, .int .u32 c0.pc, .slice p2 m2 q2, .slice p3 m3 q3, .slice p4 m4 q4, .slice p5 m5 q5, .int .u32 c0.low, .int .i64 c0.st] 32) := by rw [hW]; exact heap_alloc_new w1 _
  have AW : Below w1.heap.size w1 W := by rw [hW]; exact (Below.refl _ _).alloc (Nat.le_refl _) _
  have R2 := (AW.block _ (by omega)).trans HV.out.1
  have B9 := Bx.of_heap X1
  have RB := Bx.of_heap R2
  obtain ⟨t0, t1, t2, t3, t4, t5, t6, t7, tf⟩ := id B9
  obtain ⟨z0, z1, z2, z3, z4, z5, z6, z7, zf⟩ := id RB
  have HW : Hid _ := HV.out.2.trans (AW.mono (by omega))
  clear X1 AW hW B9 RB R2
  go_wp2
  refine bodyPost_ret (v := .agg #[.slice none 0 0, .int .u32 0, .slice none 0 0, .slice none 0 0, .slice none 0 0, .slice none 0 0, .int .u32 0, .int .i64 0]) (by simp [results, Try.results7, go_sem, z0, z1, z2, z3, z4, z5, z6, z7]) rfl ?_
  exact ⟨_, rfl, cpu_zero _ _, ((Tcs.refl (fun k => k = w.heap.size + 1) _).set8 _ rfl (.slice none 0 0) (.int .u32 0) (.slice none 0 0) (.slice none 0 0) (.slice none 0 0) (.slice none 0 0) (.int .u32 0) (.int .i64 0)).below HW.out HW.out.size (by rintro k rfl; omega)⟩


set_option maxRecDepth 8000 in
set_option maxHeartbeats 1000000 in
theorem run_i_out2 (a : Option Addr) (len cap : Nat) (d bd : Int) (v : Value) (zs codes : List Int) (w : World) (hl : len ≤ 1048576) (hz : zs.length ≤ 2097152) (h : Lis .i64 w v zs) (hc : Lis .u32 w (.slice a len cap) codes) (hcu : ∀ j, j < codes.length → 0 ≤ codes.getD j 0 ∧ codes.getD j 0 ≤ 4294967295) (steps : Int) (hst0 : 0 ≤ steps) (hst : 1000000 < steps) (hv : vimg len d bd = true) (ho : okIn zs = true) :
    Calls Try.prog 7 #[.agg #[.slice a len cap, .int .i64 d, .int .i64 bd], v, .int .i64 steps] w fun e w' => ∃ u, e = .returned u ∧ CpuAt w' w.heap.size u zeroM ∧ Below w.heap.size w w' := by
  have B2 : Below w.heap.size w ((w.alloc (.cells #[.slice a len cap, .int .i64 d, .int .i64 bd] 25)).alloc (.cells #[.slice none 0 0, .int .u32 0, .slice none 0 0, .slice none 0 0, .slice none 0 0, .slice none 0 0, .int .u32 0, .int .i64 0] 32)) := ((Below.refl _ _).alloc (Nat.le_refl _) _).alloc (by simp) _
  have HBO := boot_i a len cap d bd v zs ((w.alloc (.cells #[.slice a len cap, .int .i64 d, .int .i64 bd] 25)).alloc (.cells #[.slice none 0 0, .int .u32 0, .slice none 0 0, .slice none 0 0, .slice none 0 0, .slice none 0 0, .int .u32 0, .int .i64 0] 32)) hl hz (h.below B2)
  have hcod := hc.below B2
  have hll := lis_len hc
  have hcb : ∀ g ∈ blk (.slice a len cap), g < w.heap.size := hc.lt
  obtain ⟨hG0, hst9, hmb0, hl2⟩ := boot_good len d bd zs hv ho
  generalize bootM len d bd zs = c0 at *
  have HQ : Hid _ := And.intro HBO (And.intro hcod (And.intro B2 hcb))
  clear HBO hcod B2 h hc hz hcu hl hcb
  have HG : Hid _ := hG0
  clear hG0 hst9 hmb0 hl2 hv ho hll
  go_enter Try.func7, Try.ntmps7
  go_wp2_with fail
  refine HQ.out.1.mono ?_
  rintro e w1 ⟨u1, rfl, hA, hb1⟩
  obtain ⟨L, cv, hLB⟩ := hA.toV
  obtain ⟨g2, o2, q1, m2, m3, m4, m5, p2, q2, p3, q3, p4, q4, p5, q5, rfl, hbk2⟩ := cv.shape32 HG.out.r32
  have zz := hb1.size
  simp only [World.size_alloc] at zz
  have R1 : w1.heap[w.heap.size + 1]? = some (.cells #[.slice none 0 0, .int .u32 0, .slice none 0 0, .slice none 0 0, .slice none 0 0, .slice none 0 0, .int .u32 0, .int .i64 0] 32) := by
    rw [hb1.block _ (by simp)]
    have := heap_alloc_new (w.alloc (.cells #[.slice a len cap, .int .i64 d, .int .i64 bd] 25)) (.cells #[.slice none 0 0, .int .u32 0, .slice none 0 0, .slice none 0 0, .slice none 0 0, .slice none 0 0, .int .u32 0, .int .i64 0] 32)
    simpa only [World.size_alloc] using this
  have BW1 : Below w.heap.size w w1 := HQ.out.2.2.1.trans (hb1.mono (by simp; omega))
  have HV : Hid _ := And.intro R1 BW1
  clear R1 BW1 hA hb1 HQ cv hLB hbk2
  dsimp only
  go_upto_region 2 with fail
  obtain ⟨W, hW⟩ : ∃ W, W = w1.alloc (.cells #[.slice (some ⟨g2, o2, none⟩) 32 q1, .int .u32 c0.pc, .slice p2 m2 q2, .slice p3 m3 q3, .slice p4 m4 q4, .slice p5 m5 q5, .int .u32 c0.low, .int .i64 c0.st] 32) := ⟨_, rfl⟩
  rw [← hW]
  have X1 : W.heap[w1.heap.size]? = some (.cells #[.slice (some ⟨g2, o2, none⟩) 32 q1, .int .u32 c0.pc, .slice p2 m2 q2, .slice p3 m3 q3, .slice p4 m4 q4, .slice p5 m5 q5, .int .u32 c0.low, .int .i64 c0.st] 32) := by rw [hW]; exact heap_alloc_new w1 _
  have AW : Below w1.heap.size w1 W := by rw [hW]; exact (Below.refl _ _).alloc (Nat.le_refl _) _
  have R2 := (AW.block _ (by omega)).trans HV.out.1
  have B9 := Bx.of_heap X1
  have RB := Bx.of_heap R2
  obtain ⟨t0, t1, t2, t3, t4, t5, t6, t7, tf⟩ := id B9
  obtain ⟨z0, z1, z2, z3, z4, z5, z6, z7, zf⟩ := id RB
  have HW : Hid _ := HV.out.2.trans (AW.mono (by omega))
  clear X1 AW hW B9 RB R2
  go_wp2
  refine bodyPost_ret (v := .agg #[.slice none 0 0, .int .u32 0, .slice none 0 0, .slice none 0 0, .slice none 0 0, .slice none 0 0, .int .u32 0, .int .i64 0]) (by simp [results, Try.results7, go_sem, z0, z1, z2, z3, z4, z5, z6, z7]) rfl ?_
  exact ⟨_, rfl, cpu_zero _ _, ((Tcs.refl (fun k => k = w.heap.size + 1) _).set8 _ rfl (.slice none 0 0) (.int .u32 0) (.slice none 0 0) (.slice none 0 0) (.slice none 0 0) (.slice none 0 0) (.int .u32 0) (.int .i64 0)).below HW.out HW.out.size (by rintro k rfl; omega)⟩


theorem run_i (a : Option Addr) (len cap : Nat) (d bd : Int) (v : Value) (zs codes : List Int) (w : World) (hl : len ≤ 1048576) (hz : zs.length ≤ 2097152) (h : Lis .i64 w v zs) (hc : Lis .u32 w (.slice a len cap) codes) (hcu : ∀ j, j < codes.length → 0 ≤ codes.getD j 0 ∧ codes.getD j 0 ≤ 4294967295) (steps : Int) :
    Calls Try.prog 7 #[.agg #[.slice a len cap, .int .i64 d, .int .i64 bd], v, .int .i64 steps] w fun e w' => ∃ u, e = .returned u ∧ CpuAt w' w.heap.size u (runRes len d bd zs codes steps) ∧ Below w.heap.size w w' := by
  unfold runRes
  split
  · rename_i hv
    simp only [Bool.and_eq_true] at hv
    split
    · rename_i hs
      unfold stepsOk at hs
      simp only [decide_eq_true_eq] at hs
      obtain ⟨N, rfl⟩ := Int.eq_ofNat_of_zero_le hs.1
      exact run_i_yes a len cap d bd v zs codes w hl hz h hc hcu N (by omega) hv.1 hv.2
    · rename_i hs
      unfold stepsOk at hs
      simp only [decide_eq_true_eq] at hs
      by_cases h1 : steps < 0
      · exact run_i_out1 a len cap d bd v zs codes w hl hz h hc hcu steps h1 hv.1 hv.2
      · exact run_i_out2 a len cap d bd v zs codes w hl hz h hc hcu steps (by omega) (by omega) hv.1 hv.2
  · rename_i hv
    exact run_i_no a len cap d bd v zs codes w hl hz h hc hcu steps (by simpa using hv)

end Go.Proofs.Ytffihdllalnncaa

namespace Go.Proofs.Ytffihdllalnncaa
open Go.RowKit
set_option linter.unusedVariables false
set_option linter.unusedSimpArgs false
/-- Three cells of a box. -/
structure M3 (w : World) (g : Nat) (x0 x1 x2 : Value) : Prop where
  c0 : w.cell? ⟨g, 0, none⟩ = some x0
  c1 : w.cell? ⟨g, 1, none⟩ = some x1
  c2 : w.cell? ⟨g, 2, none⟩ = some x2
theorem M3.keep {w w' : World} {g : Nat} {x0 x1 x2 : Value} (h : M3 w g x0 x1 x2) (hb : w'.heap[g]? = w.heap[g]?) : M3 w' g x0 x1 x2 := by
  have k := fun j => World.cell?_of_block (w := w) (w' := w') (a := ⟨g, j, none⟩) hb
  exact ⟨(k 0).trans h.c0, (k 1).trans h.c1, (k 2).trans h.c2⟩
theorem M3.lt {w : World} {g : Nat} {x0 x1 x2 : Value} (h : M3 w g x0 x1 x2) : g < w.heap.size := World.block_lt_of_cell? _ _ h.c0
theorem M3.below {w w' : World} {g : Nat} {x0 x1 x2 : Value} (h : M3 w g x0 x1 x2) (hb : Below w.heap.size w w') : M3 w' g x0 x1 x2 := h.keep (hb.block g h.lt)
theorem M3.of_heap {w : World} {g : Nat} {t : TypeId} {x0 x1 x2 : Value} (h : w.heap[g]? = some (.cells #[x0, x1, x2] t)) : M3 w g x0 x1 x2 := by
  constructor
  all_goals (simp [World.cell?, h]; done)
def CuOk (codes : List Int) : Prop := ∀ j, j < codes.length → 0 ≤ codes.getD j 0 ∧ codes.getD j 0 ≤ 4294967295
theorem rr_good (n : Nat) (d b : Int) (zs codes : List Int) (s : Int) (hl : n = codes.length) (hcu : CuOk codes) (hv : (vimg n d b && okIn zs) = true) (hs : stepsOk s = true) : runRes n d b zs codes s = runM codes b (bootM n d b zs) s.toNat ∧ Good (runRes n d b zs codes s) := by
  have e : runRes n d b zs codes s = runM codes b (bootM n d b zs) s.toNat := by
    unfold runRes
    rw [if_pos hv, if_pos hs]
  simp only [Bool.and_eq_true] at hv
  obtain ⟨hG, hst, hmb, hn⟩ := boot_good n d b zs hv.1 hv.2
  exact ⟨e, by rw [e]; exact (runM_good codes b (bootM n d b zs) hG hmb ⟨by omega, hcu⟩ s.toNat).1⟩
theorem rr_no (n : Nat) (d b : Int) (zs codes : List Int) (s : Int) (hv : ¬ (vimg n d b && okIn zs) = true) : runRes n d b zs codes s = zeroM := by
  unfold runRes
  rw [if_neg hv]
theorem bm_no (n : Nat) (d b : Int) (zs : List Int) (hv : ¬ (vimg n d b && okIn zs) = true) : bootM n d b zs = zeroM := by
  unfold bootM
  rw [if_neg hv]
theorem bm_yes (n : Nat) (d b : Int) (zs : List Int) (hv : (vimg n d b && okIn zs) = true) : (bootM n d b zs).regs.length = 32 := by
  unfold bootM
  rw [if_pos hv]
  simp [regs0]
theorem zero_small : Small zeroM := by refine ⟨?_, ?_, ?_, ?_, ?_⟩ <;> simp [zeroM]
theorem good_small {c : Mc} (hg : Good c) : Small c := by
  have h1 := hg.r32
  have h2 := hg.dl
  have h3 := hg.sl
  have h4 := hg.il
  have h5 := hg.ol
  refine ⟨?_, ?_, ?_, ?_, ?_⟩ <;> omega
theorem rr_small (n : Nat) (d b : Int) (zs codes : List Int) (s : Int) (hl : n = codes.length) (hcu : CuOk codes) : Small (runRes n d b zs codes s) := by
  by_cases hv : (vimg n d b && okIn zs) = true
  · by_cases hs : stepsOk s = true
    · exact good_small (rr_good n d b zs codes s hl hcu hv hs).2
    · unfold runRes
      rw [if_pos hv, if_neg hs]
      exact zero_small
  · rw [rr_no n d b zs codes s hv]
    exact zero_small
theorem rr_low (n : Nat) (d b : Int) (zs codes : List Int) (s : Int) (hl : n = codes.length) (hcu : CuOk codes) (hv : (vimg n d b && okIn zs) = true) (hs : stepsOk s = true) : (runRes n d b zs codes s).low ≤ (runRes n d b zs codes s).regs.getD 2 0 := by
  rw [(rr_good n d b zs codes s hl hcu hv hs).1]
  simp only [Bool.and_eq_true] at hv
  obtain ⟨hG, hst, hmb, hn⟩ := boot_good n d b zs hv.1 hv.2
  exact runM_low codes b _ hG hmb ⟨by omega, hcu⟩ (bootM_low n d b zs) _
theorem rr_zero (n : Nat) (d b : Int) (zs codes : List Int) (hv : (vimg n d b && okIn zs) = true) : runRes n d b zs codes 0 = bootM n d b zs := by
  unfold runRes
  rw [if_pos hv, if_pos (by decide)]
  rfl
theorem good_wf {c : Mc} (hg : Good c) : Wf c := ⟨fun j hj => hg.ru j (by have := hg.r32; omega), hg.pcu, hg.lou, hg.du, hg.su⟩
end Go.Proofs.Ytffihdllalnncaa
