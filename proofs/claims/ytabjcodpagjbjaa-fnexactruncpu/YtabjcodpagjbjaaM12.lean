import Derived.Maps.AppendAt
import Derived.Test.YtabjcodpagjbjaaM11
import Derived.OwnWalk
import Derived.Laws.OwnMore
import Derived.Deep.RegionLaw
import Derived.Deep.AppendLies
namespace Go.Proofs.Ytabjcodpagjbjaa
open Go.RowKit
set_option linter.unusedVariables false
set_option linter.unusedSimpArgs false

theorem inn_shape {w : World} {L : List Nat} {c : Mc} {g off cap n y : Nat} {x : Option Addr} {p d s o l t : Value} {z : Int} {is : List Int}
    (h : CpuV w (.agg #[.slice (some ⟨g, off, none⟩) 32 cap, p, d, s, .slice x n y, o, l, t]) L c) (hi0 : c.inn = z :: is) :
    ∃ gi oi, x = some ⟨gi, oi, none⟩ ∧ n = is.length + 1 ∧ is.length + 1 ≤ y ∧ w.cell? ⟨gi, oi, none⟩ = some (.int .i64 z) ∧ gi ∈ L ∧ gi ≠ g ∧ Lis .i64 w (.slice (some ⟨gi, oi + 1, none⟩) is.length (y - 1)) is ∧
      ∀ i', Lis .i64 w i' is → (∀ x ∈ blk i', x = gi) → capOk i' → ∃ L', CpuV w (.agg #[.slice (some ⟨g, off, none⟩) 32 cap, p, d, s, i', o, l, t]) L' { c with inn := is } ∧ (∀ x ∈ L', x ∈ L) := by
  obtain ⟨r', d', s', i', o', hv, hr, hd, hs, hi, ho, hk, hL, hnd⟩ := h
  simp only [Value.agg.injEq, Array.mk.injEq, List.cons.injEq, and_true] at hv
  obtain ⟨rfl, rfl, rfl, rfl, rfl, rfl, rfl, rfl⟩ := hv
  have hnl : c.inn.length = is.length + 1 := by rw [hi0]; simp
  obtain ⟨gi, oi, ci, e, hRi, hbi⟩ := lis_some hi (by omega)
  simp only [Value.slice.injEq] at e
  obtain ⟨rfl, rfl, rfl⟩ := e
  have hcap : c.inn.length ≤ y := hk.2.2
  have hbk : blk (.slice (some ⟨g, off, none⟩) 32 cap) = [g] := rfl
  have ri := hRi.cell 0 (by omega)
  rw [hi0] at ri
  simp only [List.getD_cons_zero, Nat.add_zero] at ri
  have hgi : gi ∈ L := by rw [hL, hbi]; simp
  refine ⟨gi, oi, rfl, hnl, by omega, ri, hgi, ?_, ?_, ?_⟩
  · rintro rfl
    rw [hL, hbk, hbi] at hnd
    simp at hnd
  · refine ⟨_, _, rfl, fun hn => ⟨gi, oi + 1, rfl, hRi.lt, fun j hj => ?_, hRi.froz⟩⟩
    have := hRi.cell (j + 1) (by omega)
    rw [hi0] at this
    rw [show oi + 1 + j = oi + (j + 1) by omega, this]
    simp
  · intro i' hi' hsub hci
    have hsl : (blk (.slice (some ⟨g, off, none⟩) 32 cap) ++ blk d ++ blk s ++ blk i' ++ obk o).Sublist L := by
      rw [hL]
      refine List.Sublist.append (List.Sublist.append (List.Sublist.refl _) ?_) (List.Sublist.refl _)
      rw [hbi]
      exact blk_sub hsub
    exact ⟨_, ⟨_, _, _, _, _, rfl, hr, hd, hs, hi', ho, ⟨hk.1, hk.2.1, hci⟩, rfl, List.Nodup.sublist hsl hnd⟩, fun x hx => hsl.subset hx⟩


theorem reg_cell {w : World} {L : List Nat} {c : Mc} {g off cap k : Nat} {p d s i o l t : Value} (h : CpuV w (.agg #[.slice (some ⟨g, off, none⟩) 32 cap, p, d, s, i, o, l, t]) L c) (h32 : c.regs.length = 32) (hk : k < 32) :
    w.cell? ⟨g, off + k, none⟩ = some (.int .u32 (c.regs.getD k 0)) ∧ w.frozen? ⟨g, off + k, none⟩ = false := by
  obtain ⟨r', d', s', i', o', hv, hr, hd, hs, hi, ho, hk', hL, hnd⟩ := h
  simp only [Value.agg.injEq, Array.mk.injEq, List.cons.injEq, and_true] at hv
  obtain ⟨rfl, rfl, rfl, rfl, rfl, rfl, rfl, rfl⟩ := hv
  have hR := row_of hr h32
  exact ⟨hR.cell k (by omega), hR.froz _⟩
theorem in1_end {w W : World} {L L' : List Nat} {c : Mc} {g off cap : Nat} {p d s i' o l t i2 p2 y0 y1 y2 y3 y4 y5 y6 y7 : Value} {is : List Int} {o1 o2 : Obj} {v pc' : Int}
    (hk : CpuV w (.agg #[.slice (some ⟨g, off, none⟩) 32 cap, p, d, s, i', o, l, t]) L' { c with inn := is }) (h32 : c.regs.length = 32) (hsub : ∀ x ∈ L', x ∈ L) (hlt : ∀ x ∈ L, x < w.heap.size)
    (hW : W = (((w.setCell ⟨g, off + 10, none⟩ (.int .u32 0)).alloc o1).alloc o2)) :
    CpuV ((((((((((((W.setCell ⟨g, off + 10, none⟩ (.int .u32 v)).setCell ⟨w.heap.size, 4, none⟩ i2).setCell ⟨w.heap.size, 1, none⟩ p2).setCell ⟨w.heap.size + 1, 0, none⟩ y0).setCell ⟨w.heap.size + 1, 1, none⟩ y1).setCell ⟨w.heap.size + 1, 2, none⟩ y2).setCell ⟨w.heap.size + 1, 3, none⟩ y3).setCell ⟨w.heap.size + 1, 4, none⟩ y4).setCell ⟨w.heap.size + 1, 5, none⟩ y5).setCell ⟨w.heap.size + 1, 6, none⟩ y6).setCell ⟨w.heap.size + 1, 7, none⟩ y7).drew) (.agg #[.slice (some ⟨g, off, none⟩) 32 cap, .int .u32 pc', d, s, i', o, l, t]) L' { c with regs := c.regs.set 10 v, inn := is, pc := pc' } ∧ (∀ x ∈ L', x ∈ L) ∧ Tcs (fun x => x ∈ L) w ((((((((((((W.setCell ⟨g, off + 10, none⟩ (.int .u32 v)).setCell ⟨w.heap.size, 4, none⟩ i2).setCell ⟨w.heap.size, 1, none⟩ p2).setCell ⟨w.heap.size + 1, 0, none⟩ y0).setCell ⟨w.heap.size + 1, 1, none⟩ y1).setCell ⟨w.heap.size + 1, 2, none⟩ y2).setCell ⟨w.heap.size + 1, 3, none⟩ y3).setCell ⟨w.heap.size + 1, 4, none⟩ y4).setCell ⟨w.heap.size + 1, 5, none⟩ y5).setCell ⟨w.heap.size + 1, 6, none⟩ y6).setCell ⟨w.heap.size + 1, 7, none⟩ y7).drew) := by
  obtain ⟨k0, hg⟩ := hk.set (rd := 10) (v := 0) h32 (by omega)
  have k1 := k0.below (below2 _ o1 o2)
  rw [← hW] at k1
  obtain ⟨k2, _⟩ := k1.set (rd := 10) (v := v) (by simpa using h32) (by omega)
  have e : (c.regs.set 10 0).set 10 v = c.regs.set 10 v := by rw [List.set_set]
  have T := (((Tcs.refl (fun k => w.heap.size ≤ k) (W.setCell ⟨g, off + 10, none⟩ (.int .u32 v))).setCell (p := ⟨w.heap.size, 4, none⟩) (Nat.le_refl _) i2).setCell (p := ⟨w.heap.size, 1, none⟩) (Nat.le_refl _) p2).set8 (w.heap.size + 1) (by omega) y0 y1 y2 y3 y4 y5 y6 y7
  have k3 := ((k2.tcs T fun x hx h => by have := hlt x (hsub x hx); omega).pc pc').below ((Below.refl _ _).drew)
  refine ⟨by simpa only [e] using k3, hsub, ?_⟩
  have U := ((((Tcs.refl (fun x => x ∈ L) w).setCell (p := ⟨g, off + 10, none⟩) (hsub g hg) (.int .u32 0)).alloc o1).alloc o2)
  rw [← hW] at U
  have U2 := U.setCell (p := ⟨g, off + 10, none⟩) (hsub g hg) (.int .u32 v)
  exact (((U2.setNew (p := ⟨w.heap.size, 4, none⟩) (Nat.le_refl _) i2).setNew (p := ⟨w.heap.size, 1, none⟩) (Nat.le_refl _) p2).new8 (w.heap.size + 1) (by omega) y0 y1 y2 y3 y4 y5 y6 y7).drewN 1


set_option maxRecDepth 8000 in
set_option maxHeartbeats 1000000 in
theorem ecIn1 (v : Value) (L : List Nat) (c : Mc) (w : World) (hG : Good c) (h : CpuV w v L c) (z : Int) (is : List Int) (h17 : c.regs.getD 17 0 = 2) (hi0 : c.inn = z :: is) :
    Calls Try.prog 80 #[v] w fun e w' => ∃ u, e = .returned u ∧ ∃ L', CpuV w' u L' { c with regs := c.regs.set 10 (z % 4294967296), inn := is, pc := (c.pc + 4) % 4294967296 } ∧ (∀ x ∈ L', x ∈ L) ∧ Tcs (fun g => g ∈ L) w w' := by
  obtain ⟨g, off, y1, n2, n3, n4, n5, x2, y2, x3, y3, x4, y4, x5, y5, rfl, hbk⟩ := h.shape32 hG.r32
  have A4 : Below w.heap.size w ((w.alloc (.cells #[.slice (some ⟨g, off, none⟩) 32 y1, .int .u32 c.pc, .slice x2 n2 y2, .slice x3 n3 y3, .slice x4 n4 y4, .slice x5 n5 y5, .int .u32 c.low, .int .i64 c.st] 32)).alloc (.cells #[.slice none 0 0, .int .u32 0, .slice none 0 0, .slice none 0 0, .slice none 0 0, .slice none 0 0, .int .u32 0, .int .i64 0] 32)) := below2 _ _ _
  have hCb : ((w.alloc (.cells #[.slice (some ⟨g, off, none⟩) 32 y1, .int .u32 c.pc, .slice x2 n2 y2, .slice x3 n3 y3, .slice x4 n4 y4, .slice x5 n5 y5, .int .u32 c.low, .int .i64 c.st] 32)).alloc (.cells #[.slice none 0 0, .int .u32 0, .slice none 0 0, .slice none 0 0, .slice none 0 0, .slice none 0 0, .int .u32 0, .int .i64 0] 32)).heap[w.heap.size]? = some (.cells #[.slice (some ⟨g, off, none⟩) 32 y1, .int .u32 c.pc, .slice x2 n2 y2, .slice x3 n3 y3, .slice x4 n4 y4, .slice x5 n5 y5, .int .u32 c.low, .int .i64 c.st] 32) := by
    rw [Below.heap_alloc _ _ _ (by simp)]
    exact heap_alloc_new w _
  have hI := h.boxed A4 hCb (Nat.le_refl _)
  obtain ⟨rv, d, s, i, o, hb, hr, hd, hs, hi, ho, hk, hL, hnd⟩ := id hI
  obtain rfl := Option.some.inj (hb.c0.symm.trans (Bx.of_heap hCb).c0)
  have hR := row_of hr hG.r32
  have r17 := hR.cell 17 (by have := hG.r32; omega)
  have r10 := hR.cell 10 (by have := hG.r32; omega)
  have f10 := hR.froz (off + 10)
  have hgw : g < w.heap.size := h.lt g hbk
  have e1 : ¬ g = w.heap.size := by omega
  have e2 : ¬ g = w.heap.size + 1 := by omega
  rw [h17] at r17
  obtain ⟨gi, oi, rfl, rfl, hy, ri, hgi, hgg, hLt, hmk⟩ := inn_shape h hi0
  have hsm : is.length ≤ 1000 := by have := hG.il; have : c.inn.length = is.length + 1 := by rw [hi0]; simp
                                    omega
  have hgiw : gi < w.heap.size := h.lt gi hgi
  have e3 : ¬ gi = w.heap.size := by omega
  have e4 : ¬ gi = w.heap.size + 1 := by omega
  have e5 : ¬ g = gi := fun e => hgg e.symm
  have e5' : ¬ gi = g := hgg
  have HM : Hid _ := And.intro hLt (And.intro hgi hi0)
  have HK : Hid (∀ i', Lis .i64 w i' is → (∀ x ∈ blk i', x = gi) → capOk i' → _) := hmk
  clear hLt hmk hgg hgi hi0
  have HX : Hid _ := And.intro h (And.intro A4 (And.intro hI (Bx.of_heap hCb)))
  clear hb hr hR hd hs hi ho hk hL hnd h A4 hCb hI hbk
  generalize hx17 : c.regs.getD 17 0 = q17 at *
  generalize hx10 : c.regs.getD 10 0 = q10 at *
  go_enter Try.func80, Try.ntmps80
  go_wp2_with fail
  have hW : ∃ W, W = (((w.setCell ⟨g, off + 10, none⟩ (.int .u32 0)).alloc (.cells #[.slice (some ⟨g, off, none⟩) 32 y1, .int .u32 c.pc, .slice x2 n2 y2, .slice x3 n3 y3, .slice (some ⟨gi, oi, none⟩) (is.length + 1) y4, .slice x5 n5 y5, .int .u32 c.low, .int .i64 c.st] 32)).alloc (.cells #[.slice none 0 0, .int .u32 0, .slice none 0 0, .slice none 0 0, .slice none 0 0, .slice none 0 0, .int .u32 0, .int .i64 0] 32)) := ⟨_, rfl⟩
  obtain ⟨W, hW⟩ := hW
  rw [← hW]
  have hs : (w.setCell ⟨g, off + 10, none⟩ (.int .u32 0)).heap.size = w.heap.size := by simp
  have b1 : W.heap[w.heap.size]? = some (.cells #[.slice (some ⟨g, off, none⟩) 32 y1, .int .u32 c.pc, .slice x2 n2 y2, .slice x3 n3 y3, .slice (some ⟨gi, oi, none⟩) (is.length + 1) y4, .slice x5 n5 y5, .int .u32 c.low, .int .i64 c.st] 32) := by
    rw [hW, Below.heap_alloc _ _ _ (by simp), ← hs]
    exact heap_alloc_new _ _
  have b2 : W.heap[w.heap.size + 1]? = some (.cells #[.slice none 0 0, .int .u32 0, .slice none 0 0, .slice none 0 0, .slice none 0 0, .slice none 0 0, .int .u32 0, .int .i64 0] 32) := by
    rw [hW]
    have := heap_alloc_new ((w.setCell ⟨g, off + 10, none⟩ (.int .u32 0)).alloc (.cells #[.slice (some ⟨g, off, none⟩) 32 y1, .int .u32 c.pc, .slice x2 n2 y2, .slice x3 n3 y3, .slice (some ⟨gi, oi, none⟩) (is.length + 1) y4, .slice x5 n5 y5, .int .u32 c.low, .int .i64 c.st] 32)) (.cells #[.slice none 0 0, .int .u32 0, .slice none 0 0, .slice none 0 0, .slice none 0 0, .slice none 0 0, .int .u32 0, .int .i64 0] 32)
    simpa only [World.size_alloc, hs] using this
  have B1 := Bx.of_heap b1
  have B2 := Bx.of_heap b2
  have c0 := B1.c0
  have c1 := B1.c1
  have c2 := B1.c2
  have c3 := B1.c3
  have c4 := B1.c4
  have c5 := B1.c5
  have c6 := B1.c6
  have c7 := B1.c7
  have fB1 := B1.fz 1
  have fB4 := B1.fz 4
  obtain ⟨z0, z1, z2, z3, z4, z5, z6, z7, zf⟩ := id B2
  have kW : CpuV W _ L { c with regs := c.regs.set 10 0 } := hW ▸ ((HX.out.1.set (rd := 10) (v := 0) hG.r32 (by omega)).1).below (below2 _ _ _)
  have d10 : W.cell? ⟨g, off + 10, none⟩ = some (.int .u32 0) ∧ W.frozen? ⟨g, off + 10, none⟩ = false := by
    have := reg_cell (k := 10) kW (by simpa using hG.r32) (by omega)
    have e : (c.regs.set 10 0).getD 10 0 = 0 := by have := hG.r32; simp [List.getD, this]
    simpa only [e] using this
  have di : W.cell? ⟨gi, oi, none⟩ = some (.int .i64 z) := by
    obtain ⟨gi', oi', e, _, _, hc, _⟩ := inn_shape kW HM.out.2.2
    simp only [Option.some.injEq, Addr.mk.injEq, and_true] at e
    obtain ⟨rfl, rfl⟩ := e
    exact hc
  clear kW
  obtain ⟨d10, g10⟩ := d10
  have HW : Hid _ := And.intro hW (And.intro B1 B2)
  clear hW b1 b2 B1 B2 hs r17 r10 f10 ri
  go_region_held3 (fun W => W.cell? ⟨w.heap.size, 0, none⟩ = some (.slice (some ⟨g, off, none⟩) 32 y1) ∧ W.cell? ⟨w.heap.size, 4, none⟩ = some (.slice (some ⟨gi, oi, none⟩) (is.length + 1) y4) ∧ W.cell? ⟨gi, oi, none⟩ = some (.int .i64 z)) (go_simp) (fail)
  go_wp2
  · refine bodyPost_ret (v := .agg #[.slice (some ⟨g, off, none⟩) 32 y1, .int .u32 ((c.pc + 4) % 4294967296), .slice x2 n2 y2, .slice x3 n3 y3, .slice (some ⟨gi, oi, none⟩) is.length 0, .slice x5 n5 y5, .int .u32 c.low, .int .i64 c.st]) (by simp [results, Try.results80, go_sem, z0, z1, z2, z3, z4, z5, z6, z7]) rfl ?_
    obtain ⟨L', k1, k2⟩ := HK.out (.slice (some ⟨gi, oi, none⟩) is.length 0) ⟨_, _, rfl, fun hn => absurd hn (by omega)⟩ (fun x hx => by have := blk_obk hx; simpa [obk] using this) (show is.length ≤ 0 by omega)
    exact ⟨_, rfl, L', in1_end k1 hG.r32 k2 HX.out.1.lt HW.out.1⟩
  · refine bodyPost_ret (v := .agg #[.slice (some ⟨g, off, none⟩) 32 y1, .int .u32 ((c.pc + 4) % 4294967296), .slice x2 n2 y2, .slice x3 n3 y3, .slice (some ⟨gi, oi + 1, none⟩) is.length (y4 - 1), .slice x5 n5 y5, .int .u32 c.low, .int .i64 c.st]) (by simp [results, Try.results80, go_sem, z0, z1, z2, z3, z4, z5, z6, z7]) rfl ?_
    obtain ⟨L', k1, k2⟩ := HK.out _ HM.out.1 (fun x hx => by have := blk_obk hx; simpa [obk] using this) (show is.length ≤ y4 - 1 by omega)
    exact ⟨_, rfl, L', in1_end k1 hG.r32 k2 HX.out.1.lt HW.out.1⟩

end Go.Proofs.Ytabjcodpagjbjaa

namespace Go.Proofs.Ytabjcodpagjbjaa
open Go.RowKit
set_option linter.unusedVariables false
set_option linter.unusedSimpArgs false

theorem own_keep {w W W0 w5 : World} {r p d s i o l t : Value} {L : List Nat} {c : Mc} {k : Nat} (h : CpuV w (.agg #[r, p, d, s, i, o, l, t]) L c) (a1 : Below W.heap.size W W0) (a2 : W0.grownBy w5 o.ownBlock)
    (hk : w.heap.size ≤ k) (hk2 : k < W.heap.size) : w5.heap[k]? = W.heap[k]? := by
  have hlt := h.lt
  obtain ⟨r', d', s', i', o', hv, hr, hd, hs, hi, ho, hk', hL, hnd⟩ := h
  simp only [Value.agg.injEq, Array.mk.injEq, List.cons.injEq, and_true] at hv
  obtain ⟨rfl, rfl, rfl, rfl, rfl, rfl, rfl, rfl⟩ := hv
  rw [a2.block k (Nat.lt_of_lt_of_le hk2 a1.size) ?_, a1.block k hk2]
  intro e
  obtain ⟨a, n, rfl⟩ := own_slice ho
  have hm : k ∈ L := by
    have : k ∈ obk (.slice a c.out.length n) := by
      cases a with
      | none => simp [Value.ownBlock] at e
      | some a => simp [Value.ownBlock] at e; simp [obk, e]
    rw [hL]
    simp [this]
  have := hlt k hm
  omega
theorem out_end {w W W0 w5 : World} {L : List Nat} {c : Mc} {rv d s i o y0 y1 y2 y3 y4 y5 y6 y7 : Value} {g5 k5 n5 : Nat} {v pc' : Int}
    (hv : CpuV w (.agg #[rv, .int .u32 c.pc, d, s, i, o, .int .u32 c.low, .int .i64 c.st]) L c) (hI : CpuIn W w.heap.size (w.heap.size :: L) c) (hb : Bx W w.heap.size rv (.int .u32 c.pc) d s i o (.int .u32 c.low) (.int .i64 c.st))
    (hBW : Below w.heap.size w W) (hsz : W.heap.size = w.heap.size + 2) (hn5 : n5 = c.out.length) (a1 : Below W.heap.size W W0) (a2 : W0.grownBy w5 o.ownBlock)
    (a3 : w5.ownsRow 0 2 1 (.slice (some ⟨g5, 0, none⟩) (n5 + 1) k5) (n5 + 1) (c.out.map (Value.int .i64) ++ [.int .i64 v])) (a4 : o.ownBlock = some g5 ∨ g5 = W0.heap.size) :
    ∃ L', CpuV ((((((((((w5.setCell ⟨w.heap.size, 5, none⟩ (.slice (some ⟨g5, 0, none⟩) (n5 + 1) k5)).setCell ⟨w.heap.size, 1, none⟩ (.int .u32 pc')).setCell ⟨w.heap.size + 1, 0, none⟩ y0).setCell ⟨w.heap.size + 1, 1, none⟩ y1).setCell ⟨w.heap.size + 1, 2, none⟩ y2).setCell ⟨w.heap.size + 1, 3, none⟩ y3).setCell ⟨w.heap.size + 1, 4, none⟩ y4).setCell ⟨w.heap.size + 1, 5, none⟩ y5).setCell ⟨w.heap.size + 1, 6, none⟩ y6).setCell ⟨w.heap.size + 1, 7, none⟩ y7) (.agg #[rv, .int .u32 pc', d, s, i, (.slice (some ⟨g5, 0, none⟩) (n5 + 1) k5), .int .u32 c.low, .int .i64 c.st]) L' { c with out := c.out ++ [v], pc := pc' } ∧ (∀ x ∈ L', x ∈ L ∨ w.heap.size ≤ x) ∧ Tcs (fun x => x ∈ L) w ((((((((((w5.setCell ⟨w.heap.size, 5, none⟩ (.slice (some ⟨g5, 0, none⟩) (n5 + 1) k5)).setCell ⟨w.heap.size, 1, none⟩ (.int .u32 pc')).setCell ⟨w.heap.size + 1, 0, none⟩ y0).setCell ⟨w.heap.size + 1, 1, none⟩ y1).setCell ⟨w.heap.size + 1, 2, none⟩ y2).setCell ⟨w.heap.size + 1, 3, none⟩ y3).setCell ⟨w.heap.size + 1, 4, none⟩ y4).setCell ⟨w.heap.size + 1, 5, none⟩ y5).setCell ⟨w.heap.size + 1, 6, none⟩ y6).setCell ⟨w.heap.size + 1, 7, none⟩ y7) := by
  subst hn5
  have hlt := hv.lt
  obtain ⟨L', k1, k2, k3⟩ := hI.out1 hb a1 a2 a3 a4
  have hnd : L'.Nodup := by
    obtain ⟨_, _, _, _, _, _, _, _, _, _, _, _, _, hnd⟩ := k1
    exact hnd
  have k4 := k1.pc pc'
  have hb4 := ((hb.keep (own_keep hv a1 a2 (Nat.le_refl _) (by omega))).s5 (.slice (some ⟨g5, 0, none⟩) (c.out.length + 1) k5)).s1 (.int .u32 pc')
  have hR : w.heap.size + 1 ∉ L' := by
    intro hm
    rcases k2 _ hm with e | e
    · rcases List.mem_cons.mp e with e | e
      · omega
      · have := hlt _ e
        omega
    · omega
  obtain ⟨L2, rfl, k6⟩ := CpuIn.giveBack2 (w := w) k4 hb4 ((Tcs.refl (fun k => k = w.heap.size + 1) _).set8 (w.heap.size + 1) rfl y0 y1 y2 y3 y4 y5 y6 y7) hR
  refine ⟨L2, k6, fun x hx => ?_, ?_⟩
  · rcases k2 x (List.mem_cons_of_mem _ hx) with e | e
    · rcases List.mem_cons.mp e with rfl | e
      · exact absurd hx (List.nodup_cons.mp hnd).1
      · exact .inl e
    · exact .inr (by omega)
  · have U : Tcs (fun x => x ∈ L) w (w5.setCell ⟨w.heap.size, 5, none⟩ (.slice (some ⟨g5, 0, none⟩) (c.out.length + 1) k5)) := by
      refine ⟨k3.os.trans hBW.os, k3.tape.trans hBW.tape, k3.output.trans hBW.output, Nat.le_trans hBW.size k3.size, fun q hq hn => (k3.block q (by omega) fun e => ?_).trans (hBW.block q hq)⟩
      rcases List.mem_cons.mp e with e | e
      · omega
      · exact hn e
    exact (U.setNew (p := ⟨w.heap.size, 1, none⟩) (Nat.le_refl _) (.int .u32 pc')).new8 (w.heap.size + 1) (by omega) y0 y1 y2 y3 y4 y5 y6 y7


set_option maxRecDepth 8000 in
set_option maxHeartbeats 1000000 in
theorem ecOut (v : Value) (L : List Nat) (c : Mc) (w : World) (hG : Good c) (h : CpuV w v L c) (h17 : c.regs.getD 17 0 = 1) (ho1 : Hid (c.out.length < 1000000)) :
    Calls Try.prog 80 #[v] w fun e w' => ∃ u, e = .returned u ∧ ∃ L', CpuV w' u L' { c with out := c.out ++ [wrap32 (c.regs.getD 10 0)], pc := (c.pc + 4) % 4294967296 } ∧ (∀ x ∈ L', x ∈ L ∨ w.heap.size ≤ x) ∧ Tcs (fun g => g ∈ L) w w' := by
  obtain ⟨g, off, y1, n2, n3, n4, n5, x2, y2, x3, y3, x4, y4, x5, y5, rfl, hbk⟩ := h.shape32 hG.r32
  have A4 : Below w.heap.size w ((w.alloc (.cells #[.slice (some ⟨g, off, none⟩) 32 y1, .int .u32 c.pc, .slice x2 n2 y2, .slice x3 n3 y3, .slice x4 n4 y4, .slice x5 n5 y5, .int .u32 c.low, .int .i64 c.st] 32)).alloc (.cells #[.slice none 0 0, .int .u32 0, .slice none 0 0, .slice none 0 0, .slice none 0 0, .slice none 0 0, .int .u32 0, .int .i64 0] 32)) := below2 _ _ _
  have hCb : ((w.alloc (.cells #[.slice (some ⟨g, off, none⟩) 32 y1, .int .u32 c.pc, .slice x2 n2 y2, .slice x3 n3 y3, .slice x4 n4 y4, .slice x5 n5 y5, .int .u32 c.low, .int .i64 c.st] 32)).alloc (.cells #[.slice none 0 0, .int .u32 0, .slice none 0 0, .slice none 0 0, .slice none 0 0, .slice none 0 0, .int .u32 0, .int .i64 0] 32)).heap[w.heap.size]? = some (.cells #[.slice (some ⟨g, off, none⟩) 32 y1, .int .u32 c.pc, .slice x2 n2 y2, .slice x3 n3 y3, .slice x4 n4 y4, .slice x5 n5 y5, .int .u32 c.low, .int .i64 c.st] 32) := by
    rw [Below.heap_alloc _ _ _ (by simp)]
    exact heap_alloc_new w _
  have hI := h.boxed A4 hCb (Nat.le_refl _)
  obtain ⟨rv, d, s, i, o, hb, hr, hd, hs, hi, ho, hk, hL, hnd⟩ := id hI
  obtain rfl := Option.some.inj (hb.c0.symm.trans (Bx.of_heap hCb).c0)
  have hR := row_of hr hG.r32
  have r17 := hR.cell 17 (by have := hG.r32; omega)
  have r10 := hR.cell 10 (by have := hG.r32; omega)
  have f10 := hR.froz (off + 10)
  have hgw : g < w.heap.size := h.lt g hbk
  have e1 : ¬ g = w.heap.size := by omega
  have e2 : ¬ g = w.heap.size + 1 := by omega
  rw [h17] at r17
  obtain ⟨i2, hi2, hz20, hz21, hz22⟩ := info_parts Try.infi64
  have hn5 : n5 = c.out.length := own_len h
  have h5 : ((n5 : Int) == 1000000) = false := by have := ho1.out; simp; omega
  have h5' : ¬ (n5 : Int) = 1000000 := by have := ho1.out; omega
  have H1 : Hid (n5 < 1000000) := by have := ho1.out; exact (by omega : n5 < 1000000)
  have HN : Hid (n5 = c.out.length) := hn5
  have HU : Hid _ := hG.ru 10 (by omega)
  obtain rfl : o = .slice x5 n5 y5 := Option.some.inj (hb.c5.symm.trans (Bx.of_heap hCb).c5)
  have HO : Hid (((w.alloc (.cells #[.slice (some ⟨g, off, none⟩) 32 y1, .int .u32 c.pc, .slice x2 n2 y2, .slice x3 n3 y3, .slice x4 n4 y4, .slice x5 n5 y5, .int .u32 c.low, .int .i64 c.st] 32)).alloc (.cells #[.slice none 0 0, .int .u32 0, .slice none 0 0, .slice none 0 0, .slice none 0 0, .slice none 0 0, .int .u32 0, .int .i64 0] 32)).ownsRow 0 2 1 (.slice x5 n5 y5) n5 (c.out.map (Value.int .i64))) := by
    show ((w.alloc (.cells #[.slice (some ⟨g, off, none⟩) 32 y1, .int .u32 c.pc, .slice x2 n2 y2, .slice x3 n3 y3, .slice x4 n4 y4, .slice x5 n5 y5, .int .u32 c.low, .int .i64 c.st] 32)).alloc (.cells #[.slice none 0 0, .int .u32 0, .slice none 0 0, .slice none 0 0, .slice none 0 0, .slice none 0 0, .int .u32 0, .int .i64 0] 32)).ownsRow 0 2 1 (.slice x5 n5 y5) n5 (c.out.map (Value.int .i64))
    rw [hn5] at ho ⊢
    exact ho
  clear hn5 ho1
  have HX : Hid _ := And.intro h (And.intro A4 (And.intro hI (Bx.of_heap hCb)))
  clear hb hr hR hd hs hi ho hk hL hnd h A4 hCb hI hbk
  generalize hx17 : c.regs.getD 17 0 = q17 at *
  generalize hx10 : c.regs.getD 10 0 = q10 at *
  go_enter Try.func80, Try.ntmps80
  go_wp2_with fail
  have hW : ∃ W, W = ((w.alloc (.cells #[.slice (some ⟨g, off, none⟩) 32 y1, .int .u32 c.pc, .slice x2 n2 y2, .slice x3 n3 y3, .slice x4 n4 y4, .slice x5 n5 y5, .int .u32 c.low, .int .i64 c.st] 32)).alloc (.cells #[.slice none 0 0, .int .u32 0, .slice none 0 0, .slice none 0 0, .slice none 0 0, .slice none 0 0, .int .u32 0, .int .i64 0] 32)) := ⟨_, rfl⟩
  obtain ⟨W, hW⟩ := hW
  rw [← hW]
  have b2 : W.heap[w.heap.size + 1]? = some (.cells #[.slice none 0 0, .int .u32 0, .slice none 0 0, .slice none 0 0, .slice none 0 0, .slice none 0 0, .int .u32 0, .int .i64 0] 32) := by
    rw [hW]
    have := heap_alloc_new (w.alloc (.cells #[.slice (some ⟨g, off, none⟩) 32 y1, .int .u32 c.pc, .slice x2 n2 y2, .slice x3 n3 y3, .slice x4 n4 y4, .slice x5 n5 y5, .int .u32 c.low, .int .i64 c.st] 32)) (.cells #[.slice none 0 0, .int .u32 0, .slice none 0 0, .slice none 0 0, .slice none 0 0, .slice none 0 0, .int .u32 0, .int .i64 0] 32)
    simpa only [World.size_alloc] using this
  have hsz : W.heap.size = w.heap.size + 2 := by rw [hW]; simp
  rw [← hW] at HO HX r10 r17 f10
  have B1 := HX.out.2.2.2
  have B2 := Bx.of_heap b2
  have c0 := B1.c0
  have c5 := B1.c5
  have f5 := B1.fz 5
  have HB : Hid (∀ (W0 w5 : World), Below W.heap.size W W0 → W0.grownBy w5 (Value.ownBlock (.slice x5 n5 y5)) → w5.heap[w.heap.size]? = W.heap[w.heap.size]? ∧ w5.heap[w.heap.size + 1]? = W.heap[w.heap.size + 1]?) :=
    fun W0 w5 a1 a2 => ⟨own_keep HX.out.1 a1 a2 (Nat.le_refl _) (by omega), own_keep HX.out.1 a1 a2 (by omega) (by omega)⟩
  have HW : Hid _ := And.intro hsz (And.intro B1 B2)
  have hl1 : w.heap.size < W.heap.size := by omega
  have hl2 : w.heap.size + 1 < W.heap.size := by omega
  have hl3 : g < W.heap.size := by omega
  have ne1 : ¬ w.heap.size = W.heap.size := by omega
  have ne2 : ¬ w.heap.size + 1 = W.heap.size := by omega
  have ne3 : ¬ g = W.heap.size := by omega
  clear hW b2 B1 B2 hsz
  go_region_law (first
    | (refine step_append_lies _ rfl _ _ 26 rfl 0 2 i2 (.int .i64 0) 1 8 Try.underlying26 hi2 hz20 hz21 hz22 rfl (by decide) (.slice x5 n5 y5) n5 _ rfl (World.ownsRow.alloc (World.ownsRow.drew HO.out) _) ⟨W.heap.size, 0, none⟩ 1 1 [_] rfl rfl (cell_one_new _ _ _) (by intro u hu; simp at hu; subst hu; rfl) (by decide) (by have := H1.out; unfold maxLen; omega) (by have := H1.out; omega) (Nat.zero_le _) _ rfl ?_; intro g5 k5 w5 hown5 hgrow5 hat5 hlt5; have d5 := HB.out _ _ (by first | exact (Below.refl _ _).drew.alloc (Nat.le_refl _) _ | exact ((Below.refl _ _).alloc (Nat.le_refl _) _).drew | exact (below_drewN (Below.refl _ _) _).alloc (Nat.le_refl _) _) hgrow5; have BC := HW.out.2.1.keep d5.1; have BR := HW.out.2.2.keep d5.2; obtain ⟨m0, m1, m2, m3, m4, m5, m6, m7, mf⟩ := id BC; obtain ⟨z0, z1, z2, z3, z4, z5, z6, z7, zf⟩ := id BR))
  all_goals go_wp2
  all_goals
    refine bodyPost_ret (v := .agg #[.slice (some ⟨g, off, none⟩) 32 y1, .int .u32 ((c.pc + 4) % 4294967296), .slice x2 n2 y2, .slice x3 n3 y3, .slice x4 n4 y4, .slice (some ⟨g5, 0, none⟩) (n5 + 1) k5, .int .u32 c.low, .int .i64 c.st]) (by simp [results, Try.results80, go_sem, z0, z1, z2, z3, z4, z5, z6, z7]) rfl ?_
    have ev : IntKind.i64.wrap (IntKind.i32.wrap q10) = wrap32 q10 := by have := HU.out; rw [IntKind.wrap_i32, IntKind.wrap_i64]; unfold wrap32; omega
    rw [ev] at hown5
    exact ⟨_, rfl, out_end HX.out.1 HX.out.2.2.1 HW.out.2.1 HX.out.2.1 HW.out.1 HN.out (by first | exact (Below.refl _ _).drew.alloc (Nat.le_refl _) _ | exact ((Below.refl _ _).alloc (Nat.le_refl _) _).drew | exact (below_drewN (Below.refl _ _) _).alloc (Nat.le_refl _) _) hgrow5 hown5 hat5⟩

end Go.Proofs.Ytabjcodpagjbjaa
