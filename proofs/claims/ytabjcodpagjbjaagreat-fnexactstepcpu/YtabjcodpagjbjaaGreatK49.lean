import Derived.Test.YtabjcodpagjbjaaGreatK48
import Derived.Deep.RegionWith
import Derived.Deep.RegionHeld3
namespace Go.Proofs.YtabjcodpagjbjaaGreat
open Go.RowKit
set_option linter.unusedVariables false
set_option linter.unusedSectionVars false
set_option linter.unusedSimpArgs false
variable [Inhabited Pick]

set_option maxRecDepth 8000 in
set_option maxHeartbeats 1000000 in
theorem reg1 (a : Option Addr) (cap : Nat) (d bd : Int) (zs : List Int) (b c : Mc) (x1 x2 x3 x4 x5 : Option Addr) (y1 y2 y3 y4 y5 : Nat) (w w2 : World) (hlz : zs.length ≤ 1048576) (hz : Rds .u32 w (.slice a zs.length cap) zs) (hk : CpuR w (.agg #[.slice x1 b.regs.length y1, .int .u32 b.pc, .slice x2 b.data.length y2, .slice x3 b.stack.length y3, .slice x4 b.inn.length y4, .slice x5 b.out.length y5, .int .u32 b.low, .int .i64 b.st]) b)
    (hsb : b.regs.length ≤ 1048576 ∧ b.data.length ≤ 1048576 ∧ b.stack.length ≤ 1048576 ∧ b.inn.length ≤ 1048576 ∧ b.out.length ≤ 1048576) (hsB : Small b) (hw : Wf b) (hcu : ∀ j, j < zs.length → 0 ≤ zs.getD j 0 ∧ zs.getD j 0 ≤ 4294967295) (hc : stepRes zs.length d bd zs b = c)
    (M : B3 w2 w.heap.size (.slice a zs.length cap) (.int .i64 d) (.int .i64 bd)) (NX : Bx w2 (w.heap.size + 1) (.slice x1 b.regs.length y1) (.int .u32 b.pc) (.slice x2 b.data.length y2) (.slice x3 b.stack.length y3) (.slice x4 b.inn.length y4) (.slice x5 b.out.length y5) (.int .u32 b.low) (.int .i64 b.st)) (A : Below w.heap.size w w2) (a0 : Act) (h84 : a0.tmps.size = 84) (h2 : a0.tmps[2]? = some (.pointer (some ⟨w.heap.size, 0, none⟩))) (h3 : a0.tmps[3]? = some (.pointer (some ⟨w.heap.size + 1, 0, none⟩))) {rid : Nat} {Q : Exit → Act → World → Prop}
    (hfin : ∀ (x : Act) (w3 : World) (g : Nat) (u1 u2 u3 u4 u5 u6 u7 u8 u9 u10), x.defers = a0.defers → x.tmps.size = 84 → (∀ t, t ≠ 24 → t ≠ 25 → t ≠ 26 → t ≠ 27 → t ≠ 28 → t ≠ 6 → x.tmps[t]? = a0.tmps[t]?) → x.tmps[6]? = some (.pointer (some ⟨g, 0, none⟩)) → Below w2.heap.size w2 w3 → w2.heap.size ≤ g → Bx w3 g (.slice u1 c.regs.length u2) (.int .u32 c.pc) (.slice u3 c.data.length u4) (.slice u5 c.stack.length u6) (.slice u7 c.inn.length u8) (.slice u9 c.out.length u10) (.int .u32 c.low) (.int .i64 c.st) → CpuAt w3 w2.heap.size (.agg #[.slice u1 c.regs.length u2, .int .u32 c.pc, .slice u3 c.data.length u4, .slice u5 c.stack.length u6, .slice u7 c.inn.length u8, .slice u9 c.out.length u10, .int .u32 c.low, .int .i64 c.st]) c → g ∉ cblk (.agg #[.slice u1 c.regs.length u2, .int .u32 c.pc, .slice u3 c.data.length u4, .slice u5 c.stack.length u6, .slice u7 c.inn.length u8, .slice u9 c.out.length u10, .int .u32 c.low, .int .i64 c.st]) → Q .normal x w3) :
    (Code.region rid #[{ dst := some 24, op := Op.load 24 (Operand.tmp 2), type := 24, pos := "exact.go:1590", after := #[], guard := none },
        { dst := some 25, op := Op.call { callee := Callee.value (Operand.func 7), args := #[Operand.tmp 24], argTypes := #[24] }, type := 34, pos := "exact.go:1590", after := #[{ on := 0, ground := Ground.data }], guard := none },
        { dst := some 26, op := Op.load 29 (Operand.tmp 3), type := 29, pos := "exact.go:1590", after := #[], guard := none },
        { dst := some 27, op := Op.call { callee := Callee.value (Operand.func 8), args := #[Operand.tmp 26], argTypes := #[29] }, type := 32, pos := "exact.go:1590", after := #[{ on := 2, ground := Ground.data }, { on := 1, ground := Ground.chain }], guard := none },
        { dst := some 28, op := Op.call { callee := Callee.value (Operand.func 6), args := #[Operand.tmp 25, Operand.tmp 27], argTypes := #[34, 32] }, type := 32, pos := "exact.go:1590", after := #[{ on := 1, ground := Ground.data }, { on := 3, ground := Ground.data }, { on := 3, ground := Ground.chain }], guard := none },
        { dst := some 6, op := Op.alloc 32, type := 0, pos := "exact.go:1590", after := #[], guard := none },
        { dst := none, op := Op.store 32 (Operand.tmp 6) (Operand.tmp 28), type := 0, pos := "exact.go:1590", after := #[{ on := 5, ground := Ground.data }, { on := 4, ground := Ground.data }, { on := 4, ground := Ground.chain }, { on := 0, ground := Ground.phase }, { on := 1, ground := Ground.phase }, { on := 2, ground := Ground.phase }, { on := 3, ground := Ground.phase }, { on := 4, ground := Ground.phase }, { on := 5, ground := Ground.phase }], guard := none }] true).wp Tryz.prog Q a0 w2 := by
  refine wp_region_grow (by kernel_rfl) (n := 6) (d := fun i => [24, 25, 26, 27, 28, 6].getD i 0) ?G
    (fun i x Y => match i with
      | 0 => x = .agg #[.slice a zs.length cap, .int .i64 d, .int .i64 bd]
      | 1 => ∃ g k, x = .agg #[.slice (some ⟨g, 0, none⟩) zs.length k, .int .i64 d, .int .i64 bd] ∧ Lis .u32 Y (.slice (some ⟨g, 0, none⟩) zs.length k) zs
      | 2 => x = .agg #[.slice x1 b.regs.length y1, .int .u32 b.pc, .slice x2 b.data.length y2, .slice x3 b.stack.length y3, .slice x4 b.inn.length y4, .slice x5 b.out.length y5, .int .u32 b.low, .int .i64 b.st]
      | 3 => ∃ p1 q1 p2 q2 p3 q3 p4 q4 p5 q5, x = .agg #[.slice (some ⟨p1, 0, none⟩) b.regs.length q1, .int .u32 b.pc, .slice (some ⟨p2, 0, none⟩) b.data.length q2, .slice (some ⟨p3, 0, none⟩) b.stack.length q3, .slice (some ⟨p4, 0, none⟩) b.inn.length q4, .slice (some ⟨p5, 0, none⟩) b.out.length q5, .int .u32 b.low, .int .i64 b.st] ∧ CpuAt Y w2.heap.size (.agg #[.slice (some ⟨p1, 0, none⟩) b.regs.length q1, .int .u32 b.pc, .slice (some ⟨p2, 0, none⟩) b.data.length q2, .slice (some ⟨p3, 0, none⟩) b.stack.length q3, .slice (some ⟨p4, 0, none⟩) b.inn.length q4, .slice (some ⟨p5, 0, none⟩) b.out.length q5, .int .u32 b.low, .int .i64 b.st]) b
      | 4 => CpuAt Y w2.heap.size x c
      | _ => ∃ g, x = .pointer (some ⟨g, 0, none⟩) ∧ w2.heap.size ≤ g ∧ Y.heap[g]? = some (.cells #[.slice none 0 0, .int .u32 0, .slice none 0 0, .slice none 0 0, .slice none 0 0, .slice none 0 0, .int .u32 0, .int .i64 0] 32))
    (fun i x => match i with
      | 4 => cblk x
      | 5 => pblk x
      | _ => []) ?stab ?hd ?step ?fin
  case G =>
    refine ⟨rfl, ?_, ?_, ?_⟩
    · intro i hi
      rcases lt6 hi with rfl | rfl | rfl | rfl | rfl | rfl <;> exact ⟨_, rfl, rfl, rfl, by simp [Region.binds]⟩
    · intro i j hi hj
      rcases lt6 hi with rfl | rfl | rfl | rfl | rfl | rfl <;> rcases lt6 hj with rfl | rfl | rfl | rfl | rfl | rfl <;> simp
    · refine ⟨_, rfl, rfl, ?_, by simp⟩
      intro i hi
      rcases lt6 hi with rfl | rfl | rfl | rfl | rfl | rfl <;> simp [Region.binds]
  case stab =>
    intro i x Y Y' hR hO hB
    by_cases hi : i < 6
    · rcases lt6 hi with rfl | rfl | rfl | rfl | rfl | rfl
      · exact hR
      · obtain ⟨g, k, rfl, hg⟩ := hR
        exact ⟨g, k, rfl, hg.below hB⟩
      · exact hR
      · obtain ⟨p1, q1, p2, q2, p3, q3, p4, q4, p5, q5, rfl, hg⟩ := hR
        exact ⟨p1, q1, p2, q2, p3, q3, p4, q4, p5, q5, rfl, hg.below hB⟩
      · exact CpuAt.below hR hB
      · obtain ⟨g, rfl, hg, hg'⟩ := hR
        exact ⟨g, rfl, hg, blocks_keep hg' hB⟩
    · obtain ⟨k, rfl⟩ : ∃ k, i = k + 6 := ⟨i - 6, by omega⟩
      obtain ⟨g, rfl, hg, hg'⟩ := hR
      exact ⟨g, rfl, hg, blocks_keep hg' hB⟩
  case hd =>
    intro i hi
    rcases lt6 hi with rfl | rfl | rfl | rfl | rfl | rfl <;> simp [h84]
  case step =>
    intro i o hi ho x Y hdf hts hfr hB hdep hown hap
    have t2 := (hfr 2 (by intro j hj; rcases lt6 hj with rfl | rfl | rfl | rfl | rfl | rfl <;> decide)).trans h2
    have t3 := (hfr 3 (by intro j hj; rcases lt6 hj with rfl | rfl | rfl | rfl | rfl | rfl <;> decide)).trans h3
    have MY := M.below hB
    have NY := NX.below hB
    have AY : Below w.heap.size w Y := A.trans (hB.mono A.size)
    rcases lt6 hi with rfl | rfl | rfl | rfl | rfl | rfl
    · simp at ho
      subst ho
      obtain ⟨c0, c1, c2⟩ := id MY
      simp [Oper.wp, execOp, Oper.upon, Act.eval, t2, c0, c1, c2, go_sem]
      exact ⟨_, rfl, rfl, Below.refl _ _⟩
    · simp at ho
      subst ho
      have e1 : x.tmps[24]?.getD undef = .agg #[.slice a zs.length cap, .int .i64 d, .int .i64 bd] := by have := hdep ⟨0, .data⟩ (by simp); simpa [Act.eval] using this
      simp [Oper.wp, execOp, Oper.upon, Act.eval, e1, go_sem]
      refine (toImage_lis _ d bd zs Y hlz (Rds.below hz AY)).mono ?_
      rintro e w3 ⟨g, k, rfl, l3, _, h3⟩
      exact ⟨_, rfl, ⟨g, k, rfl, l3⟩, h3⟩
    · simp at ho
      subst ho
      obtain ⟨e0, e1, e2, e3, e4, e5, e6, e7, ef⟩ := id NY
      simp [Oper.wp, execOp, Oper.upon, Act.eval, t3, e0, e1, e2, e3, e4, e5, e6, e7, go_sem]
      exact ⟨_, rfl, rfl, Below.refl _ _⟩
    · simp at ho
      subst ho
      have e1 : x.tmps[26]?.getD undef = .agg #[.slice x1 b.regs.length y1, .int .u32 b.pc, .slice x2 b.data.length y2, .slice x3 b.stack.length y3, .slice x4 b.inn.length y4, .slice x5 b.out.length y5, .int .u32 b.low, .int .i64 b.st] := by have := hdep ⟨2, .data⟩ (by simp); simpa [Act.eval] using this
      simp [Oper.wp, execOp, Oper.upon, Act.eval, e1, go_sem]
      refine (tc_any _ b Y (hk.below AY) hsb).mono ?_
      rintro e w3 ⟨p1, q1, p2, q2, p3, q3, p4, q4, p5, q5, rfl, l3, h3⟩
      exact ⟨_, rfl, ⟨p1, q1, p2, q2, p3, q3, p4, q4, p5, q5, rfl, l3.mono hB.size⟩, h3⟩
    · simp at ho
      subst ho
      obtain ⟨g, k, e1, l1⟩ := hdep ⟨1, .data⟩ (by simp)
      obtain ⟨p1, q1, p2, q2, p3, q3, p4, q4, p5, q5, e3, l3⟩ := hdep ⟨3, .data⟩ (by simp)
      have e1' : x.tmps[25]?.getD undef = .agg #[.slice (some ⟨g, 0, none⟩) zs.length k, .int .i64 d, .int .i64 bd] := by simpa [Act.eval] using e1
      have e3' : x.tmps[27]?.getD undef = .agg #[.slice (some ⟨p1, 0, none⟩) b.regs.length q1, .int .u32 b.pc, .slice (some ⟨p2, 0, none⟩) b.data.length q2, .slice (some ⟨p3, 0, none⟩) b.stack.length q3, .slice (some ⟨p4, 0, none⟩) b.inn.length q4, .slice (some ⟨p5, 0, none⟩) b.out.length q5, .int .u32 b.low, .int .i64 b.st] := by simpa [Act.eval] using e3
      obtain ⟨L, v3, _⟩ := l3.toV2
      simp [Oper.wp, execOp, Oper.upon, e1', e3', go_sem]
      refine (ss_any _ zs.length _ d bd _ _ _ _ _ _ _ _ _ _ L b Y hlz v3 hsB zs l1 hcu hw).mono ?_
      rintro e w3 ⟨u, rfl, h1, h3⟩
      rw [hc] at h1
      exact ⟨u, rfl, h1.mono hB.size, h3, h1.cblk⟩
    · simp at ho
      subst ho
      simp [Oper.wp, execOp, Oper.upon, go_sem]
      exact ⟨_, rfl, ⟨_, rfl, hB.size, heap_alloc_new _ _⟩, (Below.refl _ _).alloc (Nat.le_refl _) _, by intro g hg; simp [pblk] at hg; omega⟩
  case fin =>
    intro o ho x Y hG
    obtain ⟨hdf, hts, hfr, hB, hrel, hx1, hx2⟩ := hG
    simp at ho
    subst ho
    have cu : CpuAt Y w2.heap.size (x.eval (.tmp 28)) c := hrel 4 (by omega) trivial
    obtain ⟨g, e5, hg5, b5⟩ := hrel 5 (by omega) trivial
    have ap := hx2 4 5 (by omega) (by omega) (by omega) trivial trivial
    obtain ⟨u1, u2, u3, u4, u5, u6, u7, u8, u9, u10, e4⟩ := cu.shape
    simp only [List.getD_cons_succ, List.getD_cons_zero] at e5 ap
    rw [e4] at cu ap
    rw [e5] at ap
    simp only [pblk, List.mem_singleton] at ap
    have lt : 6 < x.tmps.size := by rw [hts, h84]; omega
    have e5' : x.tmps[6]? = some (.pointer (some ⟨g, 0, none⟩)) := by
      simp only [Act.eval] at e5
      rw [Array.getD_eq_getD_getElem?, Array.getElem?_eq_getElem lt] at e5
      rw [Array.getElem?_eq_getElem lt]
      simpa using e5
    have e4' : x.tmps[28]?.getD undef = .agg #[.slice u1 c.regs.length u2, .int .u32 c.pc, .slice u3 c.data.length u4, .slice u5 c.stack.length u6, .slice u7 c.inn.length u8, .slice u9 c.out.length u10, .int .u32 c.low, .int .i64 c.st] := by simpa [Act.eval] using e4
    have nb : g ∉ cblk (.agg #[.slice u1 c.regs.length u2, .int .u32 c.pc, .slice u3 c.data.length u4, .slice u5 c.stack.length u6, .slice u7 c.inn.length u8, .slice u9 c.out.length u10, .int .u32 c.low, .int .i64 c.st]) := fun h => ap g h rfl
    have X3 := (Bx.of_heap b5).set8 (.slice u1 c.regs.length u2) (.int .u32 c.pc) (.slice u3 c.data.length u4) (.slice u5 c.stack.length u6) (.slice u7 c.inn.length u8) (.slice u9 c.out.length u10) (.int .u32 c.low) (.int .i64 c.st)
    have TR : Tcs (fun k => k = g) Y ((((((((Y.setCell ⟨g, 0, none⟩ (.slice u1 c.regs.length u2)).setCell ⟨g, 1, none⟩ (.int .u32 c.pc)).setCell ⟨g, 2, none⟩ (.slice u3 c.data.length u4)).setCell ⟨g, 3, none⟩ (.slice u5 c.stack.length u6)).setCell ⟨g, 4, none⟩ (.slice u7 c.inn.length u8)).setCell ⟨g, 5, none⟩ (.slice u9 c.out.length u10)).setCell ⟨g, 6, none⟩ (.int .u32 c.low)).setCell ⟨g, 7, none⟩ (.int .i64 c.st)) := (((((((((Tcs.refl (fun k => k = g) Y).setCell rfl _).setCell rfl _).setCell rfl _).setCell rfl _).setCell rfl _).setCell rfl _).setCell rfl _).setCell rfl _)
    have fz : ∀ t, t ≠ 24 → t ≠ 25 → t ≠ 26 → t ≠ 27 → t ≠ 28 → t ≠ 6 → x.tmps[t]? = a0.tmps[t]? := by
      intro t n0 n1 n2 n3 n4 n5
      refine hfr t ?_
      intro j hj
      rcases lt6 hj with rfl | rfl | rfl | rfl | rfl | rfl
      · exact fun e => n0 e.symm
      · exact fun e => n1 e.symm
      · exact fun e => n2 e.symm
      · exact fun e => n3 e.symm
      · exact fun e => n4 e.symm
      · exact fun e => n5 e.symm
    have fin := hfin x _ g u1 u2 u3 u4 u5 u6 u7 u8 u9 u10 hdf (hts.trans h84) fz e5' (TR.below hB hB.size (by rintro k rfl; exact hg5)) hg5 X3 (cu.tcs2 TR (fun k hk e => nb (e ▸ hk))) nb
    obtain ⟨z0, z1, z2, z3, z4, z5, z6, z7, zf⟩ := Bx.of_heap b5
    have e5g : x.tmps[6]?.getD undef = .pointer (some ⟨g, 0, none⟩) := by rw [e5']; rfl
    simp [Oper.wp, execOp, Oper.upon, go_sem, Act.eval, Act.put, e5', e4', z0, z1, z2, z3, z4, z5, z6, z7, zf]
    exact fin

end Go.Proofs.YtabjcodpagjbjaaGreat
