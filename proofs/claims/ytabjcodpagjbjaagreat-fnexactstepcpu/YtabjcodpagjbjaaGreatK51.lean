import Derived.Test.YtabjcodpagjbjaaGreatK49
import Derived.Test.YtabjcodpagjbjaaGreatK50
import Derived.Deep.RegionWith
import Derived.Deep.RegionHeld3
namespace Go.Proofs.YtabjcodpagjbjaaGreat
open Go.RowKit
set_option linter.unusedVariables false
set_option linter.unusedSectionVars false
set_option linter.unusedSimpArgs false
variable [Inhabited Pick]

set_option maxRecDepth 8000 in
set_option maxHeartbeats 1000000 in
theorem lawStep_yes (a : Option Addr) (cap : Nat) (d bd : Int) (v : Value) (zs : List Int) (b : Mc) (w : World) (hl : (zs.length : Int) + b.regs.length + b.data.length + b.stack.length + b.inn.length + b.out.length ≤ 1048576) (hz : Rds .u32 w (.slice a zs.length cap) zs) (hC : CpuR w v b) (hcu : ∀ j, j < zs.length → 0 ≤ zs.getD j 0 ∧ zs.getD j 0 ≤ 4294967295) (hw : Wf b) :
    Calls Tryz.prog 3 #[.agg #[.slice a zs.length cap, .int .i64 d, .int .i64 bd], v] w fun e w' => e = .returned (.bool true) ∧ Below w.heap.size w w' := by
  have HK : Hid (CpuR w v b) := hC
  have HZ : Hid (Rds .u32 w (.slice a zs.length cap) zs) := hz
  obtain ⟨v1, v2, v3, v4, v5, rfl, h1, h2, h3, h4, h5⟩ := hC
  obtain ⟨x1, y1, rfl, t1⟩ := id h1
  obtain ⟨x2, y2, rfl, t2⟩ := id h2
  obtain ⟨x3, y3, rfl, t3⟩ := id h3
  obtain ⟨x4, y4, rfl, t4⟩ := id h4
  obtain ⟨x5, y5, rfl, t5⟩ := id h5
  clear hz h1 h2 h3 h4 h5 t1 t2 t3 t4 t5
  have hsb : b.regs.length ≤ 1048576 ∧ b.data.length ≤ 1048576 ∧ b.stack.length ≤ 1048576 ∧ b.inn.length ≤ 1048576 ∧ b.out.length ≤ 1048576 := by omega
  have hsB : Small b := by unfold Small; omega
  have hlz : zs.length ≤ 1048576 := by omega
  have HSB : Hid _ := And.intro hsb hsB
  have HL : Hid _ := hl
  have HW : Hid (Wf b) := hw
  have HU : Hid _ := hcu
  have hsm : Small (stepRes zs.length d bd zs b) := stepRes_small _ _ _ _ _ hsB hw rfl hcu
  generalize hc : stepRes zs.length d bd zs b = c at hsm
  have HC : Hid (stepRes zs.length d bd zs b = c) := hc
  clear hc hcu hw hsb hsB hl
  have M0 := (B3.of_heap (heap_alloc_new w (.cells #[.slice a zs.length cap, .int .i64 d, .int .i64 bd] 24))).below ((Below.refl _ _).alloc (Nat.le_refl _) (.cells #[.slice x1 b.regs.length y1, .int .u32 b.pc, .slice x2 b.data.length y2, .slice x3 b.stack.length y3, .slice x4 b.inn.length y4, .slice x5 b.out.length y5, .int .u32 b.low, .int .i64 b.st] 29))
  have N0 := Bx.of_heap (heap_alloc_new (w.alloc (.cells #[.slice a zs.length cap, .int .i64 d, .int .i64 bd] 24)) (.cells #[.slice x1 b.regs.length y1, .int .u32 b.pc, .slice x2 b.data.length y2, .slice x3 b.stack.length y3, .slice x4 b.inn.length y4, .slice x5 b.out.length y5, .int .u32 b.low, .int .i64 b.st] 29))
  have A0 : Below w.heap.size w ((w.alloc (.cells #[.slice a zs.length cap, .int .i64 d, .int .i64 bd] 24)).alloc (.cells #[.slice x1 b.regs.length y1, .int .u32 b.pc, .slice x2 b.data.length y2, .slice x3 b.stack.length y3, .slice x4 b.inn.length y4, .slice x5 b.out.length y5, .int .u32 b.low, .int .i64 b.st] 29)) := ((Below.refl _ _).alloc (Nat.le_refl _) _).alloc (by simp) _
  simp only [World.size_alloc] at N0
  go_enter Tryz.func3, Tryz.ntmps3
  go_wp2_with fail
  refine (sz_yes a zs.length cap d bd _ hlz).mono ?_
  rintro e w1 ⟨rfl, hb1⟩
  have M1 := M0.below hb1
  have N1 := N0.below hb1
  have A1 : Below w.heap.size w w1 := A0.trans (hb1.mono (by simp; omega))
  obtain ⟨e0, e1, e2, e3, e4, e5, e6, e7, ef⟩ := id N1
  have G1 : Hid _ := And.intro M1 (And.intro N1 A1)
  have s1 : w.heap.size + 2 ≤ w1.heap.size := by have := hb1.size; simp at this; omega
  clear M0 N0 A0 hb1 M1 N1 A1
  go_wp2_with fail
  refine (szc_yes x1 x2 x3 x4 x5 _ _ _ _ _ y1 y2 y3 y4 y5 b.pc b.low b.st _ w1 (by omega) (by have := HL.out; omega)).mono ?_
  rintro e w2 ⟨k2, hk2, rfl, hb2⟩
  obtain ⟨M1, N1, A1⟩ := G1.out
  have M2 := M1.below hb2
  have N2 := N1.below hb2
  have A2 : Below w.heap.size w w2 := A1.trans (hb2.mono A1.size)
  have s2 := Nat.le_trans s1 hb2.size
  clear M1 N1 A1 hb2 G1 e0 e1 e2 e3 e4 e5 e6 e7 ef s1
  have G2 : Hid _ := And.intro M2 (And.intro N2 A2)
  clear M2 N2 A2
  go_wp2_with fail
  rename_i hK
  refine reg1 a cap d bd zs b c x1 x2 x3 x4 x5 y1 y2 y3 y4 y5 w w2 hlz HZ.out HK.out HSB.out.1 HSB.out.2 HW.out HU.out HC.out G2.out.1 G2.out.2.1 G2.out.2.2 _ (by simp) (by simp) (by simp) ?_
  rintro x w3 gw u1 u2 u3 u4 u5 u6 u7 u8 u9 u10 hdf hts hfr hp0 hbR hgR XR CR nbR
  obtain ⟨tm, df⟩ := x
  obtain ⟨t0, t1, t2, t3, t4, t5, t6, t7, t8, t9, t10, t11, t12, t13, t14, t15, t16, t17, t18, t19, t20, t21, t22, t23, t24, t25, t26, t27, t28, t29, t30, t31, t32, t33, t34, t35, t36, t37, t38, t39, t40, t41, t42, t43, t44, t45, t46, t47, t48, t49, t50, t51, t52, t53, t54, t55, t56, t57, t58, t59, t60, t61, t62, t63, t64, t65, t66, t67, t68, t69, t70, t71, t72, t73, t74, t75, t76, t77, t78, t79, t80, t81, t82, t83, rfl⟩ := arr84 tm hts
  have f2 := hfr 2 (by decide) (by decide) (by decide) (by decide) (by decide) (by decide)
  have f3 := hfr 3 (by decide) (by decide) (by decide) (by decide) (by decide) (by decide)
  have f4 := hfr 4 (by decide) (by decide) (by decide) (by decide) (by decide) (by decide)
  simp at f2 f3 f4 hp0 hdf
  subst f2 f3 f4 hp0 hdf
  clear hts hfr
  obtain ⟨M, N, A⟩ := G2.out
  have s3 := hbR.size
  have sg := XR.lt
  have HC0 : Hid (∀ g ∈ cblk (.agg #[.slice u1 c.regs.length u2, .int .u32 c.pc, .slice u3 c.data.length u4, .slice u5 c.stack.length u6, .slice u7 c.inn.length u8, .slice u9 c.out.length u10, .int .u32 c.low, .int .i64 c.st]), w2.heap.size ≤ g ∧ g < w3.heap.size) := CR.cblk
  have HNB : Hid _ := nbR
  have M3 := M.below hbR
  obtain ⟨c0, c1, c2⟩ := id M3
  have G3 : Hid _ := (And.intro M3 (And.intro (N.below hbR) (And.intro (A.trans (hbR.mono A.size)) (And.intro CR XR))))
  refine hK _ _ ?_
  clear M N A hbR M3 CR XR nbR G2 hK
  go_wp2_with fail
  refine (toImage_lis _ d bd zs _ hlz (Rds.below HZ.out G3.out.2.2.1)).mono ?_
  rintro e w5 ⟨g5, k5, rfl, l, o5, hb5⟩
  obtain ⟨M, N, A, C, X⟩ := G3.out
  have z5 := heap_alloc_new w5 (.cells #[.slice (some ⟨g5, 0, none⟩) zs.length k5, .int .i64 d, .int .i64 bd] 34)
  have a5 := (Below.refl w5.heap.size w5).alloc (Nat.le_refl _) (.cells #[.slice (some ⟨g5, 0, none⟩) zs.length k5, .int .i64 d, .int .i64 bd] 34)
  have b5 := hb5.trans (a5.mono hb5.size)
  have s5 := hb5.size
  have gx5 : Hid (∀ g ∈ blk (.slice (some ⟨g5, 0, none⟩) zs.length k5), g = g5 ∧ g < w5.heap.size) := fun g hg => ⟨by have := blk_obk hg; simpa [obk] using this, l.lt g hg⟩
  have N5 := N.below b5
  obtain ⟨e0, e1, e2, e3, e4, e5, e6, e7, ef⟩ := id N5
  have G5 : Hid _ := (And.intro (M.below b5) (And.intro N5 (And.intro (A.trans (b5.mono A.size)) (And.intro (C.below b5) (And.intro (X.below b5) (And.intro (l.below a5) (B3.of_heap z5)))))))
  clear M N A C X l z5 a5 b5 N5 hb5 G3 c0 c1 c2
  go_wp2_with fail
  refine (tc_any _ b _ (HK.out.below G5.out.2.2.1) HSB.out.1).mono ?_
  rintro e w6 ⟨p1, q1, p2, q2, p3, q3, p4, q4, p5, q5, rfl, E, hb6⟩
  obtain ⟨M, N, A, C, X, l, Y⟩ := G5.out
  have z6 := heap_alloc_new w6 (.cells #[.slice (some ⟨p1, 0, none⟩) b.regs.length q1, .int .u32 b.pc, .slice (some ⟨p2, 0, none⟩) b.data.length q2, .slice (some ⟨p3, 0, none⟩) b.stack.length q3, .slice (some ⟨p4, 0, none⟩) b.inn.length q4, .slice (some ⟨p5, 0, none⟩) b.out.length q5, .int .u32 b.low, .int .i64 b.st] 32)
  have a6 := (Below.refl w6.heap.size w6).alloc (Nat.le_refl _) (.cells #[.slice (some ⟨p1, 0, none⟩) b.regs.length q1, .int .u32 b.pc, .slice (some ⟨p2, 0, none⟩) b.data.length q2, .slice (some ⟨p3, 0, none⟩) b.stack.length q3, .slice (some ⟨p4, 0, none⟩) b.inn.length q4, .slice (some ⟨p5, 0, none⟩) b.out.length q5, .int .u32 b.low, .int .i64 b.st] 32)
  have b6 := hb6.trans (a6.mono hb6.size)
  have s6 := hb6.size
  have HCE : Hid _ := E.cblk
  have F6 := Bx.of_heap z6
  have Y6 := Y.below b6
  simp only [World.size_alloc] at s6
  have G6 : Hid _ := (And.intro (M.below b6) (And.intro (N.below b6) (And.intro (A.trans (b6.mono A.size)) (And.intro (C.below b6) (And.intro (X.below b6) (And.intro (l.below b6) (And.intro Y6 (And.intro (E.below a6) F6))))))))
  clear e0 e1 e2 e3 e4 e5 e6 e7 ef
  obtain ⟨c0, c1, c2⟩ := id Y6
  obtain ⟨e0, e1, e2, e3, e4, e5, e6, e7, ef⟩ := id F6
  clear M N A C X l Y E z6 a6 b6 hb6 F6 Y6 G5
  go_wp2_with fail
  obtain ⟨LE, VE, _⟩ := G6.out.2.2.2.2.2.2.2.1.toV2
  refine (sc_any _ zs.length _ d bd _ LE b _ hlz VE HSB.out.2 zs G6.out.2.2.2.2.2.1 HU.out HW.out).mono ?_
  rintro e w7 ⟨uu, rfl, D, hb7⟩
  rw [HC.out] at D
  obtain ⟨v1, v2, v3, v4, v5, v6, v7, v8, v9, v10, rfl⟩ := D.shape
  clear VE c0 c1 c2 e0 e1 e2 e3 e4 e5 e6 e7 ef
  obtain ⟨M, N, A, C, X, l, Y, E, F⟩ := G6.out
  have z7 := heap_alloc_new w7 (.cells #[.slice v1 c.regs.length v2, .int .u32 c.pc, .slice v3 c.data.length v4, .slice v5 c.stack.length v6, .slice v7 c.inn.length v8, .slice v9 c.out.length v10, .int .u32 c.low, .int .i64 c.st] 32)
  have a7 := (Below.refl w7.heap.size w7).alloc (Nat.le_refl _) (.cells #[.slice v1 c.regs.length v2, .int .u32 c.pc, .slice v3 c.data.length v4, .slice v5 c.stack.length v6, .slice v7 c.inn.length v8, .slice v9 c.out.length v10, .int .u32 c.low, .int .i64 c.st] 32)
  have b7 := hb7.trans (a7.mono hb7.size)
  have s7 := hb7.size
  have HC7 : Hid _ := D.cblk
  have Z7 := Bx.of_heap z7
  have X7 := X.below b7
  simp only [World.size_alloc] at s7
  have G7 : Hid _ := (And.intro (M.below b7) (And.intro (N.below b7) (And.intro (A.trans (b7.mono A.size)) (And.intro (C.below b7) (And.intro X7 (And.intro (l.below b7) (And.intro (Y.below b7) (And.intro (E.below b7) (And.intro (F.below b7) (And.intro (D.below a7) Z7))))))))))
  obtain ⟨c0, c1, c2, c3, c4, c5, c6, c7, cf⟩ := id X7
  obtain ⟨e0, e1, e2, e3, e4, e5, e6, e7, ef⟩ := id Z7
  clear M N A C X l Y E F D z7 a7 b7 hb7 X7 Z7 G6
  go_wp2_with fail
  refine (eqCpu_any _ _ c _ _ _ hsm G7.out.2.2.2.2.2.2.2.2.2.1 G7.out.2.2.2.1).mono ?_
  rintro e w8 ⟨rfl, hb8⟩
  clear c0 c1 c2 c3 c4 c5 c6 c7 cf e0 e1 e2 e3 e4 e5 e6 e7 ef
  obtain ⟨M, N, A, C, X, l, Y, E, F, D, Z⟩ := G7.out
  have s8 := hb8.size
  simp only [World.size_alloc] at s8
  have Y8 := Y.below hb8
  have M8 := M.below hb8
  have A8 : Below w.heap.size w w8 := A.trans (hb8.mono A.size)
  have l8 := l.below hb8
  have KS : ((w8.cell? ⟨w5.heap.size, 0, none⟩ = some (.slice (some ⟨g5, 0, none⟩) zs.length k5) ∧ w8.cell? ⟨w5.heap.size, 1, none⟩ = some (.int .i64 d) ∧ w8.cell? ⟨w5.heap.size, 2, none⟩ = some (.int .i64 bd)) ∧ (w8.cell? ⟨w.heap.size, 0, none⟩ = some (.slice a zs.length cap) ∧ w8.cell? ⟨w.heap.size, 1, none⟩ = some (.int .i64 d) ∧ w8.cell? ⟨w.heap.size, 2, none⟩ = some (.int .i64 bd))) := ⟨⟨Y8.c0, Y8.c1, Y8.c2⟩, M8.c0, M8.c1, M8.c2⟩
  have HT : Hid (∀ W, Below w8.heap.size w8 W → Calls Tryz.prog 7 #[.agg #[.slice a zs.length cap, .int .i64 d, .int .i64 bd]] W fun e w' => ∃ g k, e = .returned (.agg #[.slice (some ⟨g, 0, none⟩) zs.length k, .int .i64 d, .int .i64 bd]) ∧ Rds .u32 w' (.slice (some ⟨g, 0, none⟩) zs.length k) zs ∧ Below w8.heap.size w8 w' ∧ ((w'.cell? ⟨w5.heap.size, 0, none⟩ = some (.slice (some ⟨g5, 0, none⟩) zs.length k5) ∧ w'.cell? ⟨w5.heap.size, 1, none⟩ = some (.int .i64 d) ∧ w'.cell? ⟨w5.heap.size, 2, none⟩ = some (.int .i64 bd)) ∧ (w'.cell? ⟨w.heap.size, 0, none⟩ = some (.slice a zs.length cap) ∧ w'.cell? ⟨w.heap.size, 1, none⟩ = some (.int .i64 d) ∧ w'.cell? ⟨w.heap.size, 2, none⟩ = some (.int .i64 bd)))) := by
    intro W hW
    refine (toImage_lis _ d bd zs W hlz (Rds.below HZ.out (A8.trans (hW.mono A8.size)))).mono ?_
    rintro e w9 ⟨g9, k9, rfl, l9, o9, hb9⟩
    have hW9 := hW.trans (hb9.mono hW.size)
    have Y9 := Y8.below hW9
    have M9 := M8.below hW9
    exact ⟨g9, k9, rfl, l9.rds, hW9, ⟨Y9.c0, Y9.c1, Y9.c2⟩, M9.c0, M9.c1, M9.c2⟩
  have HE : Hid (∀ (g k : Nat) (W : World), Rds .u32 W (.slice (some ⟨g, 0, none⟩) zs.length k) zs → Below w8.heap.size w8 W → Calls Tryz.prog 11 #[.agg #[.slice (some ⟨g5, 0, none⟩) zs.length k5, .int .i64 d, .int .i64 bd], .agg #[.slice (some ⟨g, 0, none⟩) zs.length k, .int .i64 d, .int .i64 bd]] W fun e w' => e = .returned (.bool true) ∧ Below w8.heap.size w8 w' ∧ ((w'.cell? ⟨w5.heap.size, 0, none⟩ = some (.slice (some ⟨g5, 0, none⟩) zs.length k5) ∧ w'.cell? ⟨w5.heap.size, 1, none⟩ = some (.int .i64 d) ∧ w'.cell? ⟨w5.heap.size, 2, none⟩ = some (.int .i64 bd)) ∧ (w'.cell? ⟨w.heap.size, 0, none⟩ = some (.slice a zs.length cap) ∧ w'.cell? ⟨w.heap.size, 1, none⟩ = some (.int .i64 d) ∧ w'.cell? ⟨w.heap.size, 2, none⟩ = some (.int .i64 bd)))) := by
    intro g k W h hW
    refine (eqImage_lis _ _ d bd zs W hlz (l8.below hW).rds h).mono fun e w' ⟨he, hb⟩ => ?_
    have hW9 := hW.trans (hb.mono hW.size)
    have Y9 := Y8.below hW9
    have M9 := M8.below hW9
    exact ⟨he, hW9, ⟨Y9.c0, Y9.c1, Y9.c2⟩, M9.c0, M9.c1, M9.c2⟩
  have G8 : Hid _ := (And.intro M8 (And.intro (N.below hb8) (And.intro A8 (And.intro (C.below hb8) (And.intro (X.below hb8) (And.intro l8 (And.intro Y8 (And.intro (E.below hb8) (And.intro (F.below hb8) (And.intro (D.below hb8) (Z.below hb8)))))))))))
  clear M N A C X l Y E F D Z Y8 M8 A8 l8 hb8 G7
  go_wp2_with fail
  go_region_held3 (fun W => ((W.cell? ⟨w5.heap.size, 0, none⟩ = some (.slice (some ⟨g5, 0, none⟩) zs.length k5) ∧ W.cell? ⟨w5.heap.size, 1, none⟩ = some (.int .i64 d) ∧ W.cell? ⟨w5.heap.size, 2, none⟩ = some (.int .i64 bd)) ∧ (W.cell? ⟨w.heap.size, 0, none⟩ = some (.slice a zs.length cap) ∧ W.cell? ⟨w.heap.size, 1, none⟩ = some (.int .i64 d) ∧ W.cell? ⟨w.heap.size, 2, none⟩ = some (.int .i64 bd)))) (first | exact KS | assumption)
    (first
    | (go_at_call 7; refine (HT.out _ ?_).mono ?_; (first | exact (Below.refl _ _).drew | exact Below.refl _ _); rintro e w9 ⟨g9, k9, rfl, l9, B9, k9'⟩)
    | (go_at_call 11; refine (HE.out _ _ _ ?_ ?_).mono ?_; (first | assumption | exact l9); (first | assumption | exact B9); rintro e w10 ⟨rfl, B10, k10'⟩))
  obtain ⟨M, N, A, C, X, l, Y, E, F, D, Z⟩ := G8.out
  have s10 := B10.size
  have F10 := F.below B10
  have N10 := N.below B10
  have A10 : Below w.heap.size w w10 := A.trans (B10.mono A.size)
  have E10 := E.below B10
  have KS2 : ((w10.cell? ⟨w6.heap.size, 0, none⟩ = some (.slice (some ⟨p1, 0, none⟩) b.regs.length q1) ∧ w10.cell? ⟨w6.heap.size, 1, none⟩ = some (.int .u32 b.pc) ∧ w10.cell? ⟨w6.heap.size, 2, none⟩ = some (.slice (some ⟨p2, 0, none⟩) b.data.length q2) ∧ w10.cell? ⟨w6.heap.size, 3, none⟩ = some (.slice (some ⟨p3, 0, none⟩) b.stack.length q3) ∧ w10.cell? ⟨w6.heap.size, 4, none⟩ = some (.slice (some ⟨p4, 0, none⟩) b.inn.length q4) ∧ w10.cell? ⟨w6.heap.size, 5, none⟩ = some (.slice (some ⟨p5, 0, none⟩) b.out.length q5) ∧ w10.cell? ⟨w6.heap.size, 6, none⟩ = some (.int .u32 b.low) ∧ w10.cell? ⟨w6.heap.size, 7, none⟩ = some (.int .i64 b.st)) ∧ (w10.cell? ⟨w.heap.size + 1, 0, none⟩ = some (.slice x1 b.regs.length y1) ∧ w10.cell? ⟨w.heap.size + 1, 1, none⟩ = some (.int .u32 b.pc) ∧ w10.cell? ⟨w.heap.size + 1, 2, none⟩ = some (.slice x2 b.data.length y2) ∧ w10.cell? ⟨w.heap.size + 1, 3, none⟩ = some (.slice x3 b.stack.length y3) ∧ w10.cell? ⟨w.heap.size + 1, 4, none⟩ = some (.slice x4 b.inn.length y4) ∧ w10.cell? ⟨w.heap.size + 1, 5, none⟩ = some (.slice x5 b.out.length y5) ∧ w10.cell? ⟨w.heap.size + 1, 6, none⟩ = some (.int .u32 b.low) ∧ w10.cell? ⟨w.heap.size + 1, 7, none⟩ = some (.int .i64 b.st))) := ⟨⟨F10.c0, F10.c1, F10.c2, F10.c3, F10.c4, F10.c5, F10.c6, F10.c7⟩, N10.c0, N10.c1, N10.c2, N10.c3, N10.c4, N10.c5, N10.c6, N10.c7⟩
  have HT2 : Hid (∀ W, Below w10.heap.size w10 W → Calls Tryz.prog 8 #[.agg #[.slice x1 b.regs.length y1, .int .u32 b.pc, .slice x2 b.data.length y2, .slice x3 b.stack.length y3, .slice x4 b.inn.length y4, .slice x5 b.out.length y5, .int .u32 b.low, .int .i64 b.st]] W fun e w' => ∃ r1 m1 r2 m2 r3 m3 r4 m4 r5 m5, e = .returned (.agg #[.slice (some ⟨r1, 0, none⟩) b.regs.length m1, .int .u32 b.pc, .slice (some ⟨r2, 0, none⟩) b.data.length m2, .slice (some ⟨r3, 0, none⟩) b.stack.length m3, .slice (some ⟨r4, 0, none⟩) b.inn.length m4, .slice (some ⟨r5, 0, none⟩) b.out.length m5, .int .u32 b.low, .int .i64 b.st]) ∧ (∃ B, CpuAt w' B (.agg #[.slice (some ⟨r1, 0, none⟩) b.regs.length m1, .int .u32 b.pc, .slice (some ⟨r2, 0, none⟩) b.data.length m2, .slice (some ⟨r3, 0, none⟩) b.stack.length m3, .slice (some ⟨r4, 0, none⟩) b.inn.length m4, .slice (some ⟨r5, 0, none⟩) b.out.length m5, .int .u32 b.low, .int .i64 b.st]) b) ∧ Below w10.heap.size w10 w' ∧ ((w'.cell? ⟨w6.heap.size, 0, none⟩ = some (.slice (some ⟨p1, 0, none⟩) b.regs.length q1) ∧ w'.cell? ⟨w6.heap.size, 1, none⟩ = some (.int .u32 b.pc) ∧ w'.cell? ⟨w6.heap.size, 2, none⟩ = some (.slice (some ⟨p2, 0, none⟩) b.data.length q2) ∧ w'.cell? ⟨w6.heap.size, 3, none⟩ = some (.slice (some ⟨p3, 0, none⟩) b.stack.length q3) ∧ w'.cell? ⟨w6.heap.size, 4, none⟩ = some (.slice (some ⟨p4, 0, none⟩) b.inn.length q4) ∧ w'.cell? ⟨w6.heap.size, 5, none⟩ = some (.slice (some ⟨p5, 0, none⟩) b.out.length q5) ∧ w'.cell? ⟨w6.heap.size, 6, none⟩ = some (.int .u32 b.low) ∧ w'.cell? ⟨w6.heap.size, 7, none⟩ = some (.int .i64 b.st)) ∧ (w'.cell? ⟨w.heap.size + 1, 0, none⟩ = some (.slice x1 b.regs.length y1) ∧ w'.cell? ⟨w.heap.size + 1, 1, none⟩ = some (.int .u32 b.pc) ∧ w'.cell? ⟨w.heap.size + 1, 2, none⟩ = some (.slice x2 b.data.length y2) ∧ w'.cell? ⟨w.heap.size + 1, 3, none⟩ = some (.slice x3 b.stack.length y3) ∧ w'.cell? ⟨w.heap.size + 1, 4, none⟩ = some (.slice x4 b.inn.length y4) ∧ w'.cell? ⟨w.heap.size + 1, 5, none⟩ = some (.slice x5 b.out.length y5) ∧ w'.cell? ⟨w.heap.size + 1, 6, none⟩ = some (.int .u32 b.low) ∧ w'.cell? ⟨w.heap.size + 1, 7, none⟩ = some (.int .i64 b.st)))) := by
    intro W hW
    refine (tc_any _ b W (HK.out.below (A10.trans (hW.mono A10.size))) HSB.out.1).mono ?_
    rintro e w9 ⟨r1, m1, r2, m2, r3, m3, r4, m4, r5, m5, rfl, l9, hb9⟩
    have hW9 := hW.trans (hb9.mono hW.size)
    have F9 := F10.below hW9
    have N9 := N10.below hW9
    exact ⟨r1, m1, r2, m2, r3, m3, r4, m4, r5, m5, rfl, ⟨_, l9⟩, hW9, ⟨F9.c0, F9.c1, F9.c2, F9.c3, F9.c4, F9.c5, F9.c6, F9.c7⟩, N9.c0, N9.c1, N9.c2, N9.c3, N9.c4, N9.c5, N9.c6, N9.c7⟩
  have HE2 : Hid (∀ (r1 m1 r2 m2 r3 m3 r4 m4 r5 m5 : Nat) (W : World), (∃ B, CpuAt W B (.agg #[.slice (some ⟨r1, 0, none⟩) b.regs.length m1, .int .u32 b.pc, .slice (some ⟨r2, 0, none⟩) b.data.length m2, .slice (some ⟨r3, 0, none⟩) b.stack.length m3, .slice (some ⟨r4, 0, none⟩) b.inn.length m4, .slice (some ⟨r5, 0, none⟩) b.out.length m5, .int .u32 b.low, .int .i64 b.st]) b) → Below w10.heap.size w10 W → Calls Tryz.prog 10 #[.agg #[.slice (some ⟨p1, 0, none⟩) b.regs.length q1, .int .u32 b.pc, .slice (some ⟨p2, 0, none⟩) b.data.length q2, .slice (some ⟨p3, 0, none⟩) b.stack.length q3, .slice (some ⟨p4, 0, none⟩) b.inn.length q4, .slice (some ⟨p5, 0, none⟩) b.out.length q5, .int .u32 b.low, .int .i64 b.st], .agg #[.slice (some ⟨r1, 0, none⟩) b.regs.length m1, .int .u32 b.pc, .slice (some ⟨r2, 0, none⟩) b.data.length m2, .slice (some ⟨r3, 0, none⟩) b.stack.length m3, .slice (some ⟨r4, 0, none⟩) b.inn.length m4, .slice (some ⟨r5, 0, none⟩) b.out.length m5, .int .u32 b.low, .int .i64 b.st]] W fun e w' => e = .returned (.bool true) ∧ Below w10.heap.size w10 w' ∧ ((w'.cell? ⟨w6.heap.size, 0, none⟩ = some (.slice (some ⟨p1, 0, none⟩) b.regs.length q1) ∧ w'.cell? ⟨w6.heap.size, 1, none⟩ = some (.int .u32 b.pc) ∧ w'.cell? ⟨w6.heap.size, 2, none⟩ = some (.slice (some ⟨p2, 0, none⟩) b.data.length q2) ∧ w'.cell? ⟨w6.heap.size, 3, none⟩ = some (.slice (some ⟨p3, 0, none⟩) b.stack.length q3) ∧ w'.cell? ⟨w6.heap.size, 4, none⟩ = some (.slice (some ⟨p4, 0, none⟩) b.inn.length q4) ∧ w'.cell? ⟨w6.heap.size, 5, none⟩ = some (.slice (some ⟨p5, 0, none⟩) b.out.length q5) ∧ w'.cell? ⟨w6.heap.size, 6, none⟩ = some (.int .u32 b.low) ∧ w'.cell? ⟨w6.heap.size, 7, none⟩ = some (.int .i64 b.st)) ∧ (w'.cell? ⟨w.heap.size + 1, 0, none⟩ = some (.slice x1 b.regs.length y1) ∧ w'.cell? ⟨w.heap.size + 1, 1, none⟩ = some (.int .u32 b.pc) ∧ w'.cell? ⟨w.heap.size + 1, 2, none⟩ = some (.slice x2 b.data.length y2) ∧ w'.cell? ⟨w.heap.size + 1, 3, none⟩ = some (.slice x3 b.stack.length y3) ∧ w'.cell? ⟨w.heap.size + 1, 4, none⟩ = some (.slice x4 b.inn.length y4) ∧ w'.cell? ⟨w.heap.size + 1, 5, none⟩ = some (.slice x5 b.out.length y5) ∧ w'.cell? ⟨w.heap.size + 1, 6, none⟩ = some (.int .u32 b.low) ∧ w'.cell? ⟨w.heap.size + 1, 7, none⟩ = some (.int .i64 b.st)))) := by
    intro r1 m1 r2 m2 r3 m3 r4 m4 r5 m5 W ⟨_, h⟩ hW
    refine (eqCpu_any _ _ b _ _ W HSB.out.2 (E10.below hW) h).mono fun e w' ⟨he, hb⟩ => ?_
    have hW9 := hW.trans (hb.mono hW.size)
    have F9 := F10.below hW9
    have N9 := N10.below hW9
    exact ⟨he, hW9, ⟨F9.c0, F9.c1, F9.c2, F9.c3, F9.c4, F9.c5, F9.c6, F9.c7⟩, N9.c0, N9.c1, N9.c2, N9.c3, N9.c4, N9.c5, N9.c6, N9.c7⟩
  have G10 : Hid _ := (And.intro (M.below B10) (And.intro N10 (And.intro A10 (And.intro (C.below B10) (And.intro (X.below B10) (And.intro (l.below B10) (And.intro (Y.below B10) (And.intro E10 (And.intro F10 (And.intro (D.below B10) (Z.below B10)))))))))))
  clear M N A C X l Y E F D Z F10 N10 A10 E10 G8 KS HT HE k10' B10 l9 B9 k9'
  go_wp2_with fail
  go_region_held3 (fun W => ((W.cell? ⟨w6.heap.size, 0, none⟩ = some (.slice (some ⟨p1, 0, none⟩) b.regs.length q1) ∧ W.cell? ⟨w6.heap.size, 1, none⟩ = some (.int .u32 b.pc) ∧ W.cell? ⟨w6.heap.size, 2, none⟩ = some (.slice (some ⟨p2, 0, none⟩) b.data.length q2) ∧ W.cell? ⟨w6.heap.size, 3, none⟩ = some (.slice (some ⟨p3, 0, none⟩) b.stack.length q3) ∧ W.cell? ⟨w6.heap.size, 4, none⟩ = some (.slice (some ⟨p4, 0, none⟩) b.inn.length q4) ∧ W.cell? ⟨w6.heap.size, 5, none⟩ = some (.slice (some ⟨p5, 0, none⟩) b.out.length q5) ∧ W.cell? ⟨w6.heap.size, 6, none⟩ = some (.int .u32 b.low) ∧ W.cell? ⟨w6.heap.size, 7, none⟩ = some (.int .i64 b.st)) ∧ (W.cell? ⟨w.heap.size + 1, 0, none⟩ = some (.slice x1 b.regs.length y1) ∧ W.cell? ⟨w.heap.size + 1, 1, none⟩ = some (.int .u32 b.pc) ∧ W.cell? ⟨w.heap.size + 1, 2, none⟩ = some (.slice x2 b.data.length y2) ∧ W.cell? ⟨w.heap.size + 1, 3, none⟩ = some (.slice x3 b.stack.length y3) ∧ W.cell? ⟨w.heap.size + 1, 4, none⟩ = some (.slice x4 b.inn.length y4) ∧ W.cell? ⟨w.heap.size + 1, 5, none⟩ = some (.slice x5 b.out.length y5) ∧ W.cell? ⟨w.heap.size + 1, 6, none⟩ = some (.int .u32 b.low) ∧ W.cell? ⟨w.heap.size + 1, 7, none⟩ = some (.int .i64 b.st)))) (first | exact KS2 | assumption)
    (first
    | (go_at_call 8; refine (HT2.out _ ?_).mono ?_; (first | exact (Below.refl _ _).drew | exact Below.refl _ _); rintro e w11 ⟨r1, m1, r2, m2, r3, m3, r4, m4, r5, m5, rfl, l11, B11, k11'⟩)
    | (go_at_call 10; refine (HE2.out _ _ _ _ _ _ _ _ _ _ _ ?_ ?_).mono ?_; (first | assumption | exact l11); (first | assumption | exact B11); rintro e w12 ⟨rfl, B12, k12'⟩))
  obtain ⟨M, N, A, C, X, l, Y, E, F, D, Z⟩ := G10.out
  have s12 := B12.size
  have Y12 := Y.below B12
  have G12 : Hid _ := (And.intro (M.below B12) (And.intro (N.below B12) (And.intro (A.trans (B12.mono A.size)) (And.intro (C.below B12) (And.intro (X.below B12) (And.intro (l.below B12) (And.intro Y12 (And.intro (E.below B12) (And.intro (F.below B12) (And.intro (D.below B12) (Z.below B12)))))))))))
  clear KS2 HT2 HE2 k12' l11 B11 k11'
  obtain ⟨c0, c1, c2⟩ := id Y12
  clear M N A C X l Y E F D Z Y12 B12 G10
  go_wp2_with fail
  refine (markImage_lis _ d bd 1 zs _ hlz (by omega) G12.out.2.2.2.2.2.1).mono ?_
  rintro e w13 ⟨rfl, t13⟩
  clear c0 c1 c2
  obtain ⟨M, N, A, C, X, l, Y, E, F, D, Z⟩ := G12.out
  have lx := gx5.out
  have hE6 := fun g hg => (HCE.out g hg : _ ∧ _)
  simp only [World.size_alloc] at hE6
  have hD7 := fun g hg => (HC7.out g hg : _ ∧ _)
  simp only [World.size_alloc] at hD7
  have HE6 : Hid _ := hE6
  have HD7 : Hid _ := hD7
  have F13 := (F.keep (t13.block _ F.lt (fun hg => by have := lx _ hg; omega)))
  have s13 := t13.size
  have G13 : Hid _ := (And.intro (M.keep (t13.block _ M.lt (fun hg => by have := lx _ hg; omega))) (And.intro (N.keep (t13.block _ N.lt (fun hg => by have := lx _ hg; omega))) (And.intro (t13.below A A.size (fun k hk => by have := lx _ hk; omega)) (And.intro (C.tcs2 t13 (fun g hg hk => by have h1 := lx _ hk; have h2 := HC0.out g hg; omega)) (And.intro (X.keep (t13.block _ X.lt (fun hg => by have := lx _ hg; omega))) (And.intro (E.tcs2 t13 (fun g hg hk => by have h1 := lx _ hk; have h2 := HE6.out g hg; omega)) (And.intro F13 (And.intro (D.tcs2 t13 (fun g hg hk => by have h1 := lx _ hk; have h2 := HD7.out g hg; omega)) (Z.keep (t13.block _ Z.lt (fun hg => by have := lx _ hg; omega)))))))))))
  clear M N A C X l Y E F D Z t13 lx hE6 hD7 G12
  obtain ⟨e0, e1, e2, e3, e4, e5, e6, e7, ef⟩ := id F13
  have hq : (0 : Int) ≤ 1 + zs.length ∧ (1 : Int) + zs.length ≤ 2097152 := by omega
  clear F13
  go_wp2_with fail
  refine (markCpu_any _ b _ _ _ HSB.out.2 hq G13.out.2.2.2.2.2.1).mono ?_
  rintro e w14 ⟨rfl, _, t14⟩
  clear e0 e1 e2 e3 e4 e5 e6 e7 ef
  obtain ⟨M, N, A, C, X, E, F, D, Z⟩ := G13.out
  have lx : ∀ g ∈ mblk (.agg #[.slice (some ⟨p1, 0, none⟩) b.regs.length q1, .int .u32 b.pc, .slice (some ⟨p2, 0, none⟩) b.data.length q2, .slice (some ⟨p3, 0, none⟩) b.stack.length q3, .slice (some ⟨p4, 0, none⟩) b.inn.length q4, .slice (some ⟨p5, 0, none⟩) b.out.length q5, .int .u32 b.low, .int .i64 b.st]), w5.heap.size + 1 ≤ g ∧ g < w6.heap.size := fun g hg => HE6.out g (mblk_cblk hg)
  have X14 := (X.keep (t14.block _ X.lt (fun hg => by have := lx _ hg; omega)))
  have Z14 := (Z.keep (t14.block _ Z.lt (fun hg => by have := lx _ hg; omega)))
  have s14 := t14.size
  have G14 : Hid _ := (And.intro (M.keep (t14.block _ M.lt (fun hg => by have := lx _ hg; omega))) (And.intro (N.keep (t14.block _ N.lt (fun hg => by have := lx _ hg; omega))) (And.intro (t14.below A A.size (fun k hk => by have := lx _ hk; omega)) (And.intro (C.tcs2 t14 (fun g hg hk => by have h1 := lx _ hk; have h2 := HC0.out g hg; omega)) (And.intro X14 (And.intro (D.tcs2 t14 (fun g hg hk => by have h1 := lx _ hk; have h2 := HD7.out g hg; omega)) Z14))))))
  have hpb : (0 : Int) ≤ 1 + zs.length + b.regs.length + b.data.length + b.stack.length + b.inn.length + b.out.length := by omega
  clear M N A C X E F D Z t14 lx G13
  obtain ⟨c0, c1, c2, c3, c4, c5, c6, c7, cf⟩ := id X14
  obtain ⟨e0, e1, e2, e3, e4, e5, e6, e7, ef⟩ := id Z14
  clear X14 Z14
  go_wp2_with fail
  refine (eqCpu_any _ _ c _ _ _ hsm G14.out.2.2.2.2.2.1 G14.out.2.2.2.1).mono ?_
  rintro e w15 ⟨rfl, hb15⟩
  clear c0 c1 c2 c3 c4 c5 c6 c7 cf e0 e1 e2 e3 e4 e5 e6 e7 ef
  obtain ⟨M, N, A, C, X, D, Z⟩ := G14.out
  have Z15 := Z.below hb15
  have s15 := hb15.size
  have G15 : Hid _ := (And.intro (M.below hb15) (And.intro (N.below hb15) (And.intro (A.trans (hb15.mono A.size)) (And.intro (C.below hb15) (And.intro (X.below hb15) (And.intro (D.below hb15) Z15))))))
  clear M N A C X D Z hb15 G14
  obtain ⟨e0, e1, e2, e3, e4, e5, e6, e7, ef⟩ := id Z15
  clear Z15
  go_wp2_with fail
  refine (markCpu_any _ c _ 1 _ hsm (by omega) G15.out.2.2.2.2.2.1).mono ?_
  rintro e w16 ⟨rfl, mk16, t16⟩
  clear e0 e1 e2 e3 e4 e5 e6 e7 ef
  obtain ⟨M, N, A, C, X, D, Z⟩ := G15.out
  have lx : ∀ g ∈ mblk (.agg #[.slice v1 c.regs.length v2, .int .u32 c.pc, .slice v3 c.data.length v4, .slice v5 c.stack.length v6, .slice v7 c.inn.length v8, .slice v9 c.out.length v10, .int .u32 c.low, .int .i64 c.st]), w6.heap.size + 1 ≤ g ∧ g < w7.heap.size := fun g hg => HD7.out g (mblk_cblk hg)
  have Z16 := (Z.keep (t16.block _ Z.lt (fun hg => by have := lx _ hg; omega)))
  have s16 := t16.size
  have G16 : Hid _ := (And.intro (M.keep (t16.block _ M.lt (fun hg => by have := lx _ hg; omega))) (And.intro (N.keep (t16.block _ N.lt (fun hg => by have := lx _ hg; omega))) (And.intro (t16.below A A.size (fun k hk => by have := lx _ hk; omega)) (And.intro (C.tcs2 t16 (fun g hg hk => by have h1 := lx _ hk; have h2 := HC0.out g hg; omega)) (And.intro (X.keep (t16.block _ X.lt (fun hg => by have := lx _ hg; omega))) mk16)))))
  clear M N A C X D Z t16 lx mk16 G15
  obtain ⟨e0, e1, e2, e3, e4, e5, e6, e7, ef⟩ := id Z16
  clear Z16
  go_wp2_with fail
  refine (heldCpu_any _ _ _ _ _ _ 1 _ hsm (by omega) G16.out.2.2.2.2.2).mono ?_
  rintro e w17 ⟨rfl, hb17⟩
  clear e0 e1 e2 e3 e4 e5 e6 e7 ef
  obtain ⟨M, N, A, C, X, mk⟩ := G16.out
  have s17 := hb17.size
  have G17 : Hid _ := (And.intro (M.below hb17) (And.intro (N.below hb17) (And.intro (A.trans (hb17.mono A.size)) (And.intro (C.below hb17) (X.below hb17)))))
  have hp : (0 : Int) ≤ 1 + c.regs.length + c.data.length + c.stack.length + c.inn.length + c.out.length := by omega
  clear M N A C X mk hb17 G16
  go_wp2_with fail
  rename_i hK
  refine reg2 a cap d bd zs b c x1 x2 x3 x4 x5 y1 y2 y3 y4 y5 w w17 hlz HZ.out HK.out HSB.out.1 HSB.out.2 HW.out HU.out HC.out G17.out.1 G17.out.2.1 G17.out.2.2.1 _ (by simp) (by simp) (by simp) ?_
  rintro x w18 gh n1 n2 n3 n4 n5 n6 n7 n8 n9 n10 hdf hts hfr hp0 hbR hgR XR CR nbR
  obtain ⟨tm, df⟩ := x
  obtain ⟨t0, t1, t2, t3, t4, t5, t6, t7, t8, t9, t10, t11, t12, t13, t14, t15, t16, t17, t18, t19, t20, t21, t22, t23, t24, t25, t26, t27, t28, t29, t30, t31, t32, t33, t34, t35, t36, t37, t38, t39, t40, t41, t42, t43, t44, t45, t46, t47, t48, t49, t50, t51, t52, t53, t54, t55, t56, t57, t58, t59, t60, t61, t62, t63, t64, t65, t66, t67, t68, t69, t70, t71, t72, t73, t74, t75, t76, t77, t78, t79, t80, t81, t82, t83, rfl⟩ := arr84 tm hts
  have f4 := hfr 4 (by decide) (by decide) (by decide) (by decide) (by decide) (by decide)
  have f6 := hfr 6 (by decide) (by decide) (by decide) (by decide) (by decide) (by decide)
  simp at f4 f6 hp0 hdf
  subst f4 f6 hp0 hdf
  clear hts hfr
  obtain ⟨M, N, A, C, X⟩ := G17.out
  have X18 := X.below hbR
  have G18 : Hid _ := (And.intro (A.trans (hbR.mono A.size)) (And.intro (C.below hbR) CR))
  obtain ⟨c0, c1, c2, c3, c4, c5, c6, c7, cf⟩ := id X18
  obtain ⟨e0, e1, e2, e3, e4, e5, e6, e7, ef⟩ := id XR
  refine hK _ _ ?_
  clear M N A C X X18 XR CR nbR hbR G17 hK
  go_wp2_with fail
  refine (eqCpu_any _ _ c _ _ _ hsm G18.out.2.2 G18.out.2.1).mono ?_
  rintro e w19 ⟨rfl, hb19⟩
  have A19 : Hid _ := G18.out.1.trans (hb19.mono G18.out.1.size)
  clear hb19 c0 c1 c2 c3 c4 c5 c6 c7 cf e0 e1 e2 e3 e4 e5 e6 e7 ef
  go_wp2
  go_ret
  exact ⟨rfl, A19.out⟩

end Go.Proofs.YtabjcodpagjbjaaGreat
