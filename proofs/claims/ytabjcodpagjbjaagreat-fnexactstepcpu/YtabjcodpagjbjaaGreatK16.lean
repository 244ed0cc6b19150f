import Derived.Test.YtabjcodpagjbjaaGreatK13
import Derived.Test.YtabjcodpagjbjaaGreatK15
namespace Go.Proofs.YtabjcodpagjbjaaGreat
open Go.RowKit
set_option linter.unusedVariables false
set_option linter.unusedSimpArgs false

theorem dat_len {w : World} {r p s i o l t : Value} {x : Option Addr} {n y : Nat} {L : List Nat} {c : Mc} (h : CpuV w (.agg #[r, p, .slice x n y, s, i, o, l, t]) L c) : n = c.data.length ∧ n ≤ y := by
  obtain ⟨r', d', s', i', o', hv, hr, hd, hs, hi, ho, hk, rfl, hnd⟩ := h
  simp only [Value.agg.injEq, Array.mk.injEq, List.cons.injEq, and_true] at hv
  obtain ⟨rfl, rfl, rfl, rfl, rfl, rfl, rfl, rfl⟩ := hv
  obtain ⟨a, k, e⟩ := hd.len0
  simp only [Value.slice.injEq] at e
  exact ⟨e.2.1, hk.1⟩
theorem stk_len {w : World} {r p d i o l t : Value} {x : Option Addr} {n y : Nat} {L : List Nat} {c : Mc} (h : CpuV w (.agg #[r, p, d, .slice x n y, i, o, l, t]) L c) : n = c.stack.length ∧ n ≤ y := by
  obtain ⟨r', d', s', i', o', hv, hr, hd, hs, hi, ho, hk, rfl, hnd⟩ := h
  simp only [Value.agg.injEq, Array.mk.injEq, List.cons.injEq, and_true] at hv
  obtain ⟨rfl, rfl, rfl, rfl, rfl, rfl, rfl, rfl⟩ := hv
  obtain ⟨a, k, e⟩ := hs.len0
  simp only [Value.slice.injEq] at e
  exact ⟨e.2.1, hk.2.1⟩


theorem cell_of {W : World} {k j t : Nat} {cs : Array Value} {v : Value} (h : W.heap[k]? = some (.cells cs t)) (hv : cs[j]? = some v) : W.cell? ⟨k, j, none⟩ = some v := by
  simp [World.cell?, h, hv]


set_option maxRecDepth 8000 in
set_option maxHeartbeats 1000000 in
theorem memF (ma : Option Addr) (mn mc' : Nat) (md mb : Int) (v : Value) (L : List Nat) (c : Mc) (op : Int) (rd s1 s2 : Nat) (im : Int) (w : World) (hG : Good c) (h : CpuV w v L c)  (hrd : rd < 32) (h1 : s1 < 32) (h2 : s2 < 32)
    (hmb : mb = (c.stack.length : Int)) (hm : noMem c ((c.regs.getD s1 0 + im) % 4294967296)) :
    Calls Tryz.prog 57 #[.agg #[.slice ma mn mc', .int .i64 md, .int .i64 mb], v, .agg #[.int .i64 op, .int .i64 rd, .int .i64 s1, .int .i64 s2, .int .i64 im]] w fun e w' =>
      ∃ u, e = .returned u ∧ CpuV w' u L { c with st := 2 } ∧ Tcs (fun g => g ∈ L) w w' := by
  obtain ⟨g, off, y1, n2, n3, n4, n5, x2, y2, x3, y3, x4, y4, x5, y5, rfl, hbk⟩ := h.shape32 hG.r32
  have A4 : Below w.heap.size w ((((w.alloc (.cells #[.slice ma mn mc', .int .i64 md, .int .i64 mb] 34)).alloc (.cells #[.slice (some ⟨g, off, none⟩) 32 y1, .int .u32 c.pc, .slice x2 n2 y2, .slice x3 n3 y3, .slice x4 n4 y4, .slice x5 n5 y5, .int .u32 c.low, .int .i64 c.st] 32)).alloc (.cells #[.int .i64 op, .int .i64 rd, .int .i64 s1, .int .i64 s2, .int .i64 im] 52)).alloc (.cells #[.slice none 0 0, .int .u32 0, .slice none 0 0, .slice none 0 0, .slice none 0 0, .slice none 0 0, .int .u32 0, .int .i64 0] 32)) := ((((Below.refl _ _).alloc (Nat.le_refl _) _).alloc (by simp) _).alloc (by simp; omega) _).alloc (by simp; omega) _
  have hCb : ((((w.alloc (.cells #[.slice ma mn mc', .int .i64 md, .int .i64 mb] 34)).alloc (.cells #[.slice (some ⟨g, off, none⟩) 32 y1, .int .u32 c.pc, .slice x2 n2 y2, .slice x3 n3 y3, .slice x4 n4 y4, .slice x5 n5 y5, .int .u32 c.low, .int .i64 c.st] 32)).alloc (.cells #[.int .i64 op, .int .i64 rd, .int .i64 s1, .int .i64 s2, .int .i64 im] 52)).alloc (.cells #[.slice none 0 0, .int .u32 0, .slice none 0 0, .slice none 0 0, .slice none 0 0, .slice none 0 0, .int .u32 0, .int .i64 0] 32)).heap[w.heap.size + 1]? = some (.cells #[.slice (some ⟨g, off, none⟩) 32 y1, .int .u32 c.pc, .slice x2 n2 y2, .slice x3 n3 y3, .slice x4 n4 y4, .slice x5 n5 y5, .int .u32 c.low, .int .i64 c.st] 32) := by
    rw [Below.heap_alloc _ _ _ (by simp), Below.heap_alloc _ _ _ (by simp)]
    have := heap_alloc_new (w.alloc (.cells #[.slice ma mn mc', .int .i64 md, .int .i64 mb] 34)) (.cells #[.slice (some ⟨g, off, none⟩) 32 y1, .int .u32 c.pc, .slice x2 n2 y2, .slice x3 n3 y3, .slice x4 n4 y4, .slice x5 n5 y5, .int .u32 c.low, .int .i64 c.st] 32)
    simpa only [World.size_alloc] using this
  have hI := h.boxed A4 hCb (by omega)
  obtain ⟨rv, d, s, i, o, hb, hr, hd, hs, hi, ho, hk, hL, hnd⟩ := id hI
  obtain rfl := Option.some.inj (hb.c0.symm.trans (Bx.of_heap hCb).c0)
  have hR := row_of hr hG.r32
  have cs1 := hR.cell s1 (by have := hG.r32; omega)
  have cs2 := hR.cell s2 (by have := hG.r32; omega)
  have hgw : g < w.heap.size := h.lt g hbk
  have e1 : ¬ g = w.heap.size := by omega
  have e2 : ¬ g = w.heap.size + 1 := by omega
  have e3 : ¬ g = w.heap.size + 1 + 1 := by omega
  have e4 : ¬ g = w.heap.size + 1 + 1 + 1 := by omega
  have cR := hR.cell rd (by have := hG.r32; omega)
  have fR := hR.froz (off + rd)
  have hn2 : n2 = c.data.length := (dat_len h).1
  have hn3 : n3 = c.stack.length := (stk_len h).1
  have hu1 := hG.ru s1 h1
  have hdl := hG.dl
  have hsl := hG.sl
  have hm' : noMem c ((c.regs.getD s1 0 + im) % 4294967296) := hm
  unfold noMem at hm'
  rw [← hn2, ← hn3] at hm'
  rw [← hn3] at hmb
  subst hmb
  have HN : Hid _ := And.intro hn2 (And.intro hn3 (And.intro hm (And.intro hm' (And.intro hdl hsl))))
  have hs1 : (s1 : Int) < 32 := by omega
  have hs1' : (0 : Int) ≤ (s1 : Int) := by omega
  have hdl2 : (n2 : Int) ≤ 65536 := by omega
  have hsl2 : (n3 : Int) ≤ 1000000 := by omega
  clear hn2 hn3 hdl hsl hm hm'
  have HX : Hid _ := And.intro h (And.intro A4 (And.intro hI (Bx.of_heap hCb)))
  clear hb hr hR hd hs hi ho hk hL hnd h A4 hCb hI hbk
  generalize hx1 : c.regs.getD s1 0 = a at *
  generalize hx2 : c.regs.getD s2 0 = b at *
  go_enter Tryz.func57, Tryz.ntmps57
  go_wp2_with fail
  have hW : ∃ W, W = ((((w.alloc (.cells #[.slice ma mn mc', .int .i64 md, .int .i64 (n3 : Int)] 34)).alloc (.cells #[.slice (some ⟨g, off, none⟩) 32 y1, .int .u32 c.pc, .slice x2 n2 y2, .slice x3 n3 y3, .slice x4 n4 y4, .slice x5 n5 y5, .int .u32 c.low, .int .i64 c.st] 32)).alloc (.cells #[.int .i64 op, .int .i64 rd, .int .i64 s1, .int .i64 s2, .int .i64 im] 52)).alloc (.cells #[.slice none 0 0, .int .u32 0, .slice none 0 0, .slice none 0 0, .slice none 0 0, .slice none 0 0, .int .u32 0, .int .i64 0] 32)) := ⟨_, rfl⟩
  obtain ⟨W, hW⟩ := hW
  rw [← hW]
  have u1 : W.heap[w.heap.size]? = some (.cells #[.slice ma mn mc', .int .i64 md, .int .i64 (n3 : Int)] 34) := by
    rw [hW, Below.heap_alloc _ _ _ (by simp; omega), Below.heap_alloc _ _ _ (by simp; omega), Below.heap_alloc _ _ _ (by simp)]
    exact heap_alloc_new _ _
  have u3 : W.heap[w.heap.size + 1 + 1]? = some (.cells #[.int .i64 op, .int .i64 rd, .int .i64 s1, .int .i64 s2, .int .i64 im] 52) := by
    rw [hW, Below.heap_alloc _ _ _ (by simp)]
    have := heap_alloc_new ((w.alloc (.cells #[.slice ma mn mc', .int .i64 md, .int .i64 (n3 : Int)] 34)).alloc (.cells #[.slice (some ⟨g, off, none⟩) 32 y1, .int .u32 c.pc, .slice x2 n2 y2, .slice x3 n3 y3, .slice x4 n4 y4, .slice x5 n5 y5, .int .u32 c.low, .int .i64 c.st] 32)) (.cells #[.int .i64 op, .int .i64 rd, .int .i64 s1, .int .i64 s2, .int .i64 im] 52)
    simpa only [World.size_alloc] using this
  have u4 : W.heap[w.heap.size + 1 + 1 + 1]? = some (.cells #[.slice none 0 0, .int .u32 0, .slice none 0 0, .slice none 0 0, .slice none 0 0, .slice none 0 0, .int .u32 0, .int .i64 0] 32) := by
    rw [hW]
    have := heap_alloc_new (((w.alloc (.cells #[.slice ma mn mc', .int .i64 md, .int .i64 (n3 : Int)] 34)).alloc (.cells #[.slice (some ⟨g, off, none⟩) 32 y1, .int .u32 c.pc, .slice x2 n2 y2, .slice x3 n3 y3, .slice x4 n4 y4, .slice x5 n5 y5, .int .u32 c.low, .int .i64 c.st] 32)).alloc (.cells #[.int .i64 op, .int .i64 rd, .int .i64 s1, .int .i64 s2, .int .i64 im] 52)) (.cells #[.slice none 0 0, .int .u32 0, .slice none 0 0, .slice none 0 0, .slice none 0 0, .slice none 0 0, .int .u32 0, .int .i64 0] 32)
    simpa only [World.size_alloc] using this
  have hsz : W.heap.size = w.heap.size + 4 := by rw [hW]; simp
  have q2 := cell_of u1 (j := 2) rfl
  have p0 := cell_of u3 (j := 0) rfl
  have p1 := cell_of u3 (j := 1) rfl
  have p2 := cell_of u3 (j := 2) rfl
  have p3 := cell_of u3 (j := 3) rfl
  have p4 := cell_of u3 (j := 4) rfl
  rw [← hW] at HX cs1 cs2 cR fR
  have B1 := HX.out.2.2.2
  have B4 := Bx.of_heap u4
  obtain ⟨c0, c1, c2, c3, c4, c5, c6, c7, cf⟩ := id B1
  obtain ⟨z0, z1, z2, z3, z4, z5, z6, z7, zf⟩ := id B4
  have HW : Hid _ := And.intro hsz (And.intro B1 B4)
  clear hW u1 u3 u4 B1 B4 hsz
  go_region_held3 (fun W => W.cell? ⟨w.heap.size + 1, 0, none⟩ = some (.slice (some ⟨g, off, none⟩) 32 y1) ∧ W.cell? ⟨w.heap.size + 1 + 1, 2, none⟩ = some (.int .i64 (s1 : Int)) ∧ W.cell? ⟨w.heap.size + 1 + 1, 4, none⟩ = some (.int .i64 im) ∧ W.cell? ⟨g, off + s1, none⟩ = some (.int .u32 a)) (go_simp) (fail)
  obtain ⟨hn2, hn3, hm, hm', hdl, hsl⟩ := HN.out
  generalize hA : (a + im) % 4294967296 = A at *
  have hA0 : 0 ≤ A ∧ A ≤ 4294967295 := by omega
  have wA : wrap64 A = A := by unfold wrap64; omega
  have wB : wrap64 (A - 1048576) = A - 1048576 := by unfold wrap64; omega
  have wC : wrap64 (A - 1048576 + 4) = A - 1048576 + 4 := by unfold wrap64; omega
  have wD : wrap64 (A - (1073741824 - (n3 : Int))) = A - (1073741824 - (n3 : Int)) := by unfold wrap64; omega
  have wE : wrap64 (A - (1073741824 - (n3 : Int)) + 4) = A - (1073741824 - (n3 : Int)) + 4 := by unfold wrap64; omega
  have tm : A.tmod 4 = A % 4 := Int.tmod_eq_emod_of_nonneg hA0.1
  have HM : Hid _ := And.intro hA0 (And.intro hm' (And.intro hdl hsl))
  clear hn2 hn3 hm hm' hdl hsl hA0 HN
  go_wp2_with fail
  all_goals first
    | (exfalso; have := HM.out; simp only [wA, wB, wC, wD, wE, tm] at *; omega; done)
    | skip
  all_goals
    refine (fault_any _ L c _ (HX.out.1.below (HX.out.2.1.drew))).mono ?_
    rintro e w1 ⟨u1, rfl, cv1, hb1⟩
    obtain ⟨m1, m2, m3, m4, m5, a1, b1, a2, b2, a3, b3, a4, b4, a5, b5, rfl⟩ := cv1.shape
    have RB := (HW.out.2.2.drewN 1).below hb1
    clear z0 z1 z2 z3 z4 z5 z6 z7 zf
    obtain ⟨z0, z1, z2, z3, z4, z5, z6, z7, zf⟩ := id RB
    have HV : Hid _ := And.intro cv1 (And.intro hb1 (And.intro HX.out.1.lt HX.out.2.1))
    clear cv1 hb1 RB HX
    dsimp only
    go_wp2
    refine bodyPost_ret (v := .agg #[.slice a1 m1 b1, .int .u32 c.pc, .slice a2 m2 b2, .slice a3 m3 b3, .slice a4 m4 b4, .slice a5 m5 b5, .int .u32 c.low, .int .i64 2]) (by simp [results, Tryz.results57, go_sem, z0, z1, z2, z3, z4, z5, z6, z7]) rfl ?_
    obtain ⟨cv1, hb1, hl, A4⟩ := HV.out
    refine ⟨_, rfl, cv1.tcs ((Tcs.refl (fun k => k = w.heap.size + 1 + 1 + 1) w1).set8 _ rfl _ _ _ _ _ _ _ _) (fun g hg e => by have := hl g hg; omega), ?_⟩
    exact (((Below.tcs (S := fun x => x ∈ L) A4).drewN 1).of_below hb1).new8 _ (by omega) _ _ _ _ _ _ _ _

end Go.Proofs.YtabjcodpagjbjaaGreat
