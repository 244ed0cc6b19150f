import Derived.OwnWalk
import Derived.Laws.OwnMore
import Derived.Maps.AppendAt
import Derived.Deep.RegionLaw
import Derived.Deep.AppendLies
import Derived.Test.YtabjcodpagjbjaaGreatK11
namespace Go.Proofs.YtabjcodpagjbjaaGreat
open Go.RowKit
set_option linter.unusedVariables false
set_option linter.unusedSimpArgs false

theorem own_keep {w W W0 w5 : World} {r p d s i o l t : Value} {L : List Nat} {c : Mc} {k : Nat} (h : CpuV w (.agg #[r, p, d, s, i, o, l, t]) L c) (a1 : Below W.heap.size W W0) (a2 : W0.grownBy w5 o.ownBlock)
    (hk : w.heap.size ≤ k) (hk2 : k < W.heap.size) : w5.heap[k]? = W.heap[k]? := by
  have hlt := h.lt
  obtain ⟨r', d', s', i', o', hv, hr, hd, hs, hi, ho, hk', hL, hnd⟩ := h
  simp only [Value.agg.injEq, Array.mk.injEq, List.cons.injEq, and_true] at hv
  obtain ⟨rfl, rfl, rfl, rfl, rfl, rfl, rfl, rfl⟩ := hv
  rw [a2.block k (Nat.lt_of_lt_of_le hk2 a1.size) ?_, a1.block k hk2]
  intro e
  obtain ⟨a, n, rfl⟩ := own_slice ho
  have hm : k ∈ L := by
    have : k ∈ obk (.slice a c.out.length n) := by
      cases a with
      | none => simp [Value.ownBlock] at e
      | some a => simp [Value.ownBlock] at e; simp [obk, e]
    rw [hL]
    simp [this]
  have := hlt k hm
  omega
theorem out_end {w W W0 w5 : World} {L : List Nat} {c : Mc} {rv d s i o y0 y1 y2 y3 y4 y5 y6 y7 : Value} {g5 k5 n5 : Nat} {v pc' : Int}
    (hv : CpuV w (.agg #[rv, .int .u32 c.pc, d, s, i, o, .int .u32 c.low, .int .i64 c.st]) L c) (hI : CpuIn W w.heap.size (w.heap.size :: L) c) (hb : Bx W w.heap.size rv (.int .u32 c.pc) d s i o (.int .u32 c.low) (.int .i64 c.st))
    (hBW : Below w.heap.size w W) (hsz : W.heap.size = w.heap.size + 2) (hn5 : n5 = c.out.length) (a1 : Below W.heap.size W W0) (a2 : W0.grownBy w5 o.ownBlock)
    (a3 : w5.ownsRow 0 2 1 (.slice (some ⟨g5, 0, none⟩) (n5 + 1) k5) (n5 + 1) (c.out.map (Value.int .i64) ++ [.int .i64 v])) (a4 : o.ownBlock = some g5 ∨ g5 = W0.heap.size) :
    ∃ L', CpuV ((((((((((w5.setCell ⟨w.heap.size, 5, none⟩ (.slice (some ⟨g5, 0, none⟩) (n5 + 1) k5)).setCell ⟨w.heap.size, 1, none⟩ (.int .u32 pc')).setCell ⟨w.heap.size + 1, 0, none⟩ y0).setCell ⟨w.heap.size + 1, 1, none⟩ y1).setCell ⟨w.heap.size + 1, 2, none⟩ y2).setCell ⟨w.heap.size + 1, 3, none⟩ y3).setCell ⟨w.heap.size + 1, 4, none⟩ y4).setCell ⟨w.heap.size + 1, 5, none⟩ y5).setCell ⟨w.heap.size + 1, 6, none⟩ y6).setCell ⟨w.heap.size + 1, 7, none⟩ y7) (.agg #[rv, .int .u32 pc', d, s, i, (.slice (some ⟨g5, 0, none⟩) (n5 + 1) k5), .int .u32 c.low, .int .i64 c.st]) L' { c with out := c.out ++ [v], pc := pc' } ∧ (∀ x ∈ L', x ∈ L ∨ w.heap.size ≤ x) ∧ Tcs (fun x => x ∈ L) w ((((((((((w5.setCell ⟨w.heap.size, 5, none⟩ (.slice (some ⟨g5, 0, none⟩) (n5 + 1) k5)).setCell ⟨w.heap.size, 1, none⟩ (.int .u32 pc')).setCell ⟨w.heap.size + 1, 0, none⟩ y0).setCell ⟨w.heap.size + 1, 1, none⟩ y1).setCell ⟨w.heap.size + 1, 2, none⟩ y2).setCell ⟨w.heap.size + 1, 3, none⟩ y3).setCell ⟨w.heap.size + 1, 4, none⟩ y4).setCell ⟨w.heap.size + 1, 5, none⟩ y5).setCell ⟨w.heap.size + 1, 6, none⟩ y6).setCell ⟨w.heap.size + 1, 7, none⟩ y7) := by
  subst hn5
  have hlt := hv.lt
  obtain ⟨L', k1, k2, k3⟩ := hI.out1 hb a1 a2 a3 a4
  have hnd : L'.Nodup := by
    obtain ⟨_, _, _, _, _, _, _, _, _, _, _, _, _, hnd⟩ := k1
    exact hnd
  have k4 := k1.pc pc'
  have hb4 := ((hb.keep (own_keep hv a1 a2 (Nat.le_refl _) (by omega))).s5 (.slice (some ⟨g5, 0, none⟩) (c.out.length + 1) k5)).s1 (.int .u32 pc')
  have hR : w.heap.size + 1 ∉ L' := by
    intro hm
    rcases k2 _ hm with e | e
    · rcases List.mem_cons.mp e with e | e
      · omega
      · have := hlt _ e
        omega
    · omega
  obtain ⟨L2, rfl, k6⟩ := CpuIn.giveBack2 (w := w) k4 hb4 ((Tcs.refl (fun k => k = w.heap.size + 1) _).set8 (w.heap.size + 1) rfl y0 y1 y2 y3 y4 y5 y6 y7) hR
  refine ⟨L2, k6, fun x hx => ?_, ?_⟩
  · rcases k2 x (List.mem_cons_of_mem _ hx) with e | e
    · rcases List.mem_cons.mp e with rfl | e
      · exact absurd hx (List.nodup_cons.mp hnd).1
      · exact .inl e
    · exact .inr (by omega)
  · have U : Tcs (fun x => x ∈ L) w (w5.setCell ⟨w.heap.size, 5, none⟩ (.slice (some ⟨g5, 0, none⟩) (c.out.length + 1) k5)) := by
      refine ⟨k3.os.trans hBW.os, k3.tape.trans hBW.tape, k3.output.trans hBW.output, Nat.le_trans hBW.size k3.size, fun q hq hn => (k3.block q (by omega) fun e => ?_).trans (hBW.block q hq)⟩
      rcases List.mem_cons.mp e with e | e
      · omega
      · exact hn e
    exact (U.setNew (p := ⟨w.heap.size, 1, none⟩) (Nat.le_refl _) (.int .u32 pc')).new8 (w.heap.size + 1) (by omega) y0 y1 y2 y3 y4 y5 y6 y7


set_option maxRecDepth 8000 in
set_option maxHeartbeats 1000000 in
theorem ecOut (v : Value) (L : List Nat) (c : Mc) (w : World) (hG : Good c) (h : CpuV w v L c) (h17 : c.regs.getD 17 0 = 1) (ho1 : Hid (c.out.length < 1000000)) :
    Calls Tryz.prog 58 #[v] w fun e w' => ∃ u, e = .returned u ∧ ∃ L', CpuV w' u L' { c with out := c.out ++ [wrap32 (c.regs.getD 10 0)], pc := (c.pc + 4) % 4294967296 } ∧ (∀ x ∈ L', x ∈ L ∨ w.heap.size ≤ x) ∧ Tcs (fun g => g ∈ L) w w' := by
  obtain ⟨g, off, y1, n2, n3, n4, n5, x2, y2, x3, y3, x4, y4, x5, y5, rfl, hbk⟩ := h.shape32 hG.r32
  have A4 : Below w.heap.size w ((w.alloc (.cells #[.slice (some ⟨g, off, none⟩) 32 y1, .int .u32 c.pc, .slice x2 n2 y2, .slice x3 n3 y3, .slice x4 n4 y4, .slice x5 n5 y5, .int .u32 c.low, .int .i64 c.st] 32)).alloc (.cells #[.slice none 0 0, .int .u32 0, .slice none 0 0, .slice none 0 0, .slice none 0 0, .slice none 0 0, .int .u32 0, .int .i64 0] 32)) := below2 _ _ _
  have hCb : ((w.alloc (.cells #[.slice (some ⟨g, off, none⟩) 32 y1, .int .u32 c.pc, .slice x2 n2 y2, .slice x3 n3 y3, .slice x4 n4 y4, .slice x5 n5 y5, .int .u32 c.low, .int .i64 c.st] 32)).alloc (.cells #[.slice none 0 0, .int .u32 0, .slice none 0 0, .slice none 0 0, .slice none 0 0, .slice none 0 0, .int .u32 0, .int .i64 0] 32)).heap[w.heap.size]? = some (.cells #[.slice (some ⟨g, off, none⟩) 32 y1, .int .u32 c.pc, .slice x2 n2 y2, .slice x3 n3 y3, .slice x4 n4 y4, .slice x5 n5 y5, .int .u32 c.low, .int .i64 c.st] 32) := by
    rw [Below.heap_alloc _ _ _ (by simp)]
    exact heap_alloc_new w _
  have hI := h.boxed A4 hCb (Nat.le_refl _)
  obtain ⟨rv, d, s, i, o, hb, hr, hd, hs, hi, ho, hk, hL, hnd⟩ := id hI
  obtain rfl := Option.some.inj (hb.c0.symm.trans (Bx.of_heap hCb).c0)
  have hR := row_of hr hG.r32
  have r17 := hR.cell 17 (by have := hG.r32; omega)
  have r10 := hR.cell 10 (by have := hG.r32; omega)
  have f10 := hR.froz (off + 10)
  have hgw : g < w.heap.size := h.lt g hbk
  have e1 : ¬ g = w.heap.size := by omega
  have e2 : ¬ g = w.heap.size + 1 := by omega
  rw [h17] at r17
  obtain ⟨i2, hi2, hz20, hz21, hz22⟩ := info_parts Tryz.infi64
  have hn5 : n5 = c.out.length := own_len h
  have h5 : ((n5 : Int) == 1000000) = false := by have := ho1.out; simp; omega
  have h5' : ¬ (n5 : Int) = 1000000 := by have := ho1.out; omega
  have H1 : Hid (n5 < 1000000) := by have := ho1.out; exact (by omega : n5 < 1000000)
  have HN : Hid (n5 = c.out.length) := hn5
  have HU : Hid _ := hG.ru 10 (by omega)
  obtain rfl : o = .slice x5 n5 y5 := Option.some.inj (hb.c5.symm.trans (Bx.of_heap hCb).c5)
  have HO : Hid (((w.alloc (.cells #[.slice (some ⟨g, off, none⟩) 32 y1, .int .u32 c.pc, .slice x2 n2 y2, .slice x3 n3 y3, .slice x4 n4 y4, .slice x5 n5 y5, .int .u32 c.low, .int .i64 c.st] 32)).alloc (.cells #[.slice none 0 0, .int .u32 0, .slice none 0 0, .slice none 0 0, .slice none 0 0, .slice none 0 0, .int .u32 0, .int .i64 0] 32)).ownsRow 0 2 1 (.slice x5 n5 y5) n5 (c.out.map (Value.int .i64))) := by
    show ((w.alloc (.cells #[.slice (some ⟨g, off, none⟩) 32 y1, .int .u32 c.pc, .slice x2 n2 y2, .slice x3 n3 y3, .slice x4 n4 y4, .slice x5 n5 y5, .int .u32 c.low, .int .i64 c.st] 32)).alloc (.cells #[.slice none 0 0, .int .u32 0, .slice none 0 0, .slice none 0 0, .slice none 0 0, .slice none 0 0, .int .u32 0, .int .i64 0] 32)).ownsRow 0 2 1 (.slice x5 n5 y5) n5 (c.out.map (Value.int .i64))
    rw [hn5] at ho ⊢
    exact ho
  clear hn5 ho1
  have HX : Hid _ := And.intro h (And.intro A4 (And.intro hI (Bx.of_heap hCb)))
  clear hb hr hR hd hs hi ho hk hL hnd h A4 hCb hI hbk
  generalize hx17 : c.regs.getD 17 0 = q17 at *
  generalize hx10 : c.regs.getD 10 0 = q10 at *
  go_enter Tryz.func58, Tryz.ntmps58
  go_wp2_with fail
  have hW : ∃ W, W = ((w.alloc (.cells #[.slice (some ⟨g, off, none⟩) 32 y1, .int .u32 c.pc, .slice x2 n2 y2, .slice x3 n3 y3, .slice x4 n4 y4, .slice x5 n5 y5, .int .u32 c.low, .int .i64 c.st] 32)).alloc (.cells #[.slice none 0 0, .int .u32 0, .slice none 0 0, .slice none 0 0, .slice none 0 0, .slice none 0 0, .int .u32 0, .int .i64 0] 32)) := ⟨_, rfl⟩
  obtain ⟨W, hW⟩ := hW
  rw [← hW]
  have b2 : W.heap[w.heap.size + 1]? = some (.cells #[.slice none 0 0, .int .u32 0, .slice none 0 0, .slice none 0 0, .slice none 0 0, .slice none 0 0, .int .u32 0, .int .i64 0] 32) := by
    rw [hW]
    have := heap_alloc_new (w.alloc (.cells #[.slice (some ⟨g, off, none⟩) 32 y1, .int .u32 c.pc, .slice x2 n2 y2, .slice x3 n3 y3, .slice x4 n4 y4, .slice x5 n5 y5, .int .u32 c.low, .int .i64 c.st] 32)) (.cells #[.slice none 0 0, .int .u32 0, .slice none 0 0, .slice none 0 0, .slice none 0 0, .slice none 0 0, .int .u32 0, .int .i64 0] 32)
    simpa only [World.size_alloc] using this
  have hsz : W.heap.size = w.heap.size + 2 := by rw [hW]; simp
  rw [← hW] at HO HX r10 r17 f10
  have B1 := HX.out.2.2.2
  have B2 := Bx.of_heap b2
  have c0 := B1.c0
  have c5 := B1.c5
  have f5 := B1.fz 5
  have HB : Hid (∀ (W0 w5 : World), Below W.heap.size W W0 → W0.grownBy w5 (Value.ownBlock (.slice x5 n5 y5)) → w5.heap[w.heap.size]? = W.heap[w.heap.size]? ∧ w5.heap[w.heap.size + 1]? = W.heap[w.heap.size + 1]?) :=
    fun W0 w5 a1 a2 => ⟨own_keep HX.out.1 a1 a2 (Nat.le_refl _) (by omega), own_keep HX.out.1 a1 a2 (by omega) (by omega)⟩
  have HW : Hid _ := And.intro hsz (And.intro B1 B2)
  have hl1 : w.heap.size < W.heap.size := by omega
  have hl2 : w.heap.size + 1 < W.heap.size := by omega
  have hl3 : g < W.heap.size := by omega
  have ne1 : ¬ w.heap.size = W.heap.size := by omega
  have ne2 : ¬ w.heap.size + 1 = W.heap.size := by omega
  have ne3 : ¬ g = W.heap.size := by omega
  clear hW b2 B1 B2 hsz
  go_region_law (first
    | (refine step_append_lies _ rfl _ _ 27 rfl 0 2 i2 (.int .i64 0) 1 8 Tryz.underlying27 hi2 hz20 hz21 hz22 rfl (by decide) (.slice x5 n5 y5) n5 _ rfl (World.ownsRow.alloc (World.ownsRow.drew HO.out) _) ⟨W.heap.size, 0, none⟩ 1 1 [_] rfl rfl (cell_one_new _ _ _) (by intro u hu; simp at hu; subst hu; rfl) (by decide) (by have := H1.out; unfold maxLen; omega) (by have := H1.out; omega) (Nat.zero_le _) _ rfl ?_; intro g5 k5 w5 hown5 hgrow5 hat5 hlt5; have d5 := HB.out _ _ (by first | exact (Below.refl _ _).drew.alloc (Nat.le_refl _) _ | exact ((Below.refl _ _).alloc (Nat.le_refl _) _).drew | exact (below_drewN (Below.refl _ _) _).alloc (Nat.le_refl _) _) hgrow5; have BC := HW.out.2.1.keep d5.1; have BR := HW.out.2.2.keep d5.2; obtain ⟨m0, m1, m2, m3, m4, m5, m6, m7, mf⟩ := id BC; obtain ⟨z0, z1, z2, z3, z4, z5, z6, z7, zf⟩ := id BR))
  all_goals go_wp2
  all_goals
    refine bodyPost_ret (v := .agg #[.slice (some ⟨g, off, none⟩) 32 y1, .int .u32 ((c.pc + 4) % 4294967296), .slice x2 n2 y2, .slice x3 n3 y3, .slice x4 n4 y4, .slice (some ⟨g5, 0, none⟩) (n5 + 1) k5, .int .u32 c.low, .int .i64 c.st]) (by simp [results, Tryz.results58, go_sem, z0, z1, z2, z3, z4, z5, z6, z7]) rfl ?_
    have ev : IntKind.i64.wrap (IntKind.i32.wrap q10) = wrap32 q10 := by have := HU.out; rw [IntKind.wrap_i32, IntKind.wrap_i64]; unfold wrap32; omega
    rw [ev] at hown5
    exact ⟨_, rfl, out_end HX.out.1 HX.out.2.2.1 HW.out.2.1 HX.out.2.1 HW.out.1 HN.out (by first | exact (Below.refl _ _).drew.alloc (Nat.le_refl _) _ | exact ((Below.refl _ _).alloc (Nat.le_refl _) _).drew | exact (below_drewN (Below.refl _ _) _).alloc (Nat.le_refl _) _) hgrow5 hown5 hat5⟩

end Go.Proofs.YtabjcodpagjbjaaGreat
