import Derived.Deep.Cut
import Derived.Test.YtabjcodpagjbjaaGreatK44
import Derived.Test.YtabjcodpagjbjaaGreatK45
namespace Go.Proofs.YtabjcodpagjbjaaGreat
open Go.RowKit
set_option linter.unusedVariables false
set_option linter.unusedSectionVars false
set_option linter.unusedSimpArgs false
variable [Inhabited Pick]

/-- A machine handed in, to be read. -/
def CpuR (w : World) (v : Value) (c : Mc) : Prop :=
  ∃ v1 v2 v3 v4 v5, v = .agg #[v1, .int .u32 c.pc, v2, v3, v4, v5, .int .u32 c.low, .int .i64 c.st] ∧ Rds .u32 w v1 c.regs ∧ Rds .u8 w v2 c.data ∧ Rds .u8 w v3 c.stack ∧ Rds .i64 w v4 c.inn ∧ Rds .i64 w v5 c.out
theorem CpuR.below {w w' : World} {v : Value} {c : Mc} (h : CpuR w v c) (hb : Below w.heap.size w w') : CpuR w' v c := by
  obtain ⟨v1, v2, v3, v4, v5, rfl, h1, h2, h3, h4, h5⟩ := h
  exact ⟨_, _, _, _, _, rfl, h1.below hb, h2.below hb, h3.below hb, h4.below hb, h5.below hb⟩


set_option maxRecDepth 8000 in
set_option maxHeartbeats 2000000 in
theorem tc_any (v : Value) (c : Mc) (w : World) (h : CpuR w v c) (hs : c.regs.length ≤ 1048576 ∧ c.data.length ≤ 1048576 ∧ c.stack.length ≤ 1048576 ∧ c.inn.length ≤ 1048576 ∧ c.out.length ≤ 1048576) :
    Calls Tryz.prog 8 #[v] w fun e w' => ∃ p1 q1 p2 q2 p3 q3 p4 q4 p5 q5, e = .returned (.agg #[.slice (some ⟨p1, 0, none⟩) c.regs.length q1, .int .u32 c.pc, .slice (some ⟨p2, 0, none⟩) c.data.length q2, .slice (some ⟨p3, 0, none⟩) c.stack.length q3, .slice (some ⟨p4, 0, none⟩) c.inn.length q4, .slice (some ⟨p5, 0, none⟩) c.out.length q5, .int .u32 c.low, .int .i64 c.st]) ∧ CpuAt w' w.heap.size (.agg #[.slice (some ⟨p1, 0, none⟩) c.regs.length q1, .int .u32 c.pc, .slice (some ⟨p2, 0, none⟩) c.data.length q2, .slice (some ⟨p3, 0, none⟩) c.stack.length q3, .slice (some ⟨p4, 0, none⟩) c.inn.length q4, .slice (some ⟨p5, 0, none⟩) c.out.length q5, .int .u32 c.low, .int .i64 c.st]) c ∧ Below w.heap.size w w' := by
  obtain ⟨v1, v2, v3, v4, v5, rfl, hr, hd, hs', hi, ho⟩ := h
  obtain ⟨x1, y1, rfl, _⟩ := id hr
  obtain ⟨x2, y2, rfl, _⟩ := id hd
  obtain ⟨x3, y3, rfl, _⟩ := id hs'
  obtain ⟨x4, y4, rfl, _⟩ := id hi
  obtain ⟨x5, y5, rfl, _⟩ := id ho
  have B0 : Below w.heap.size w (((w.alloc (.cells #[.slice x1 c.regs.length y1, .int .u32 c.pc, .slice x2 c.data.length y2, .slice x3 c.stack.length y3, .slice x4 c.inn.length y4, .slice x5 c.out.length y5, .int .u32 c.low, .int .i64 c.st] 29)).alloc (.cells #[.slice none 0 0, .int .u32 0, .slice none 0 0, .slice none 0 0, .slice none 0 0, .slice none 0 0, .int .u32 0, .int .i64 0] 32)).alloc (.cells #[.slice none 0 0, .int .u32 0, .slice none 0 0, .slice none 0 0, .slice none 0 0, .slice none 0 0, .int .u32 0, .int .i64 0] 32)) := (((Below.refl _ _).alloc (Nat.le_refl _) _).alloc (by simp) _).alloc (by simp; omega) _
  have S0 : Bx (((w.alloc (.cells #[.slice x1 c.regs.length y1, .int .u32 c.pc, .slice x2 c.data.length y2, .slice x3 c.stack.length y3, .slice x4 c.inn.length y4, .slice x5 c.out.length y5, .int .u32 c.low, .int .i64 c.st] 29)).alloc (.cells #[.slice none 0 0, .int .u32 0, .slice none 0 0, .slice none 0 0, .slice none 0 0, .slice none 0 0, .int .u32 0, .int .i64 0] 32)).alloc (.cells #[.slice none 0 0, .int .u32 0, .slice none 0 0, .slice none 0 0, .slice none 0 0, .slice none 0 0, .int .u32 0, .int .i64 0] 32)) w.heap.size (.slice x1 c.regs.length y1) (.int .u32 c.pc) (.slice x2 c.data.length y2) (.slice x3 c.stack.length y3) (.slice x4 c.inn.length y4) (.slice x5 c.out.length y5) (.int .u32 c.low) (.int .i64 c.st) := Bx.of_heap (by rw [Below.heap_alloc _ _ _ (by simp; omega), Below.heap_alloc _ _ _ (by simp)]; exact heap_alloc_new w _)
  have R0 : Bx (((w.alloc (.cells #[.slice x1 c.regs.length y1, .int .u32 c.pc, .slice x2 c.data.length y2, .slice x3 c.stack.length y3, .slice x4 c.inn.length y4, .slice x5 c.out.length y5, .int .u32 c.low, .int .i64 c.st] 29)).alloc (.cells #[.slice none 0 0, .int .u32 0, .slice none 0 0, .slice none 0 0, .slice none 0 0, .slice none 0 0, .int .u32 0, .int .i64 0] 32)).alloc (.cells #[.slice none 0 0, .int .u32 0, .slice none 0 0, .slice none 0 0, .slice none 0 0, .slice none 0 0, .int .u32 0, .int .i64 0] 32)) (w.heap.size + 1) (.slice none 0 0) (.int .u32 0) (.slice none 0 0) (.slice none 0 0) (.slice none 0 0) (.slice none 0 0) (.int .u32 0) (.int .i64 0) := Bx.of_heap (by rw [Below.heap_alloc _ _ _ (by simp)]; have := heap_alloc_new (w.alloc (.cells #[.slice x1 c.regs.length y1, .int .u32 c.pc, .slice x2 c.data.length y2, .slice x3 c.stack.length y3, .slice x4 c.inn.length y4, .slice x5 c.out.length y5, .int .u32 c.low, .int .i64 c.st] 29)) (.cells #[.slice none 0 0, .int .u32 0, .slice none 0 0, .slice none 0 0, .slice none 0 0, .slice none 0 0, .int .u32 0, .int .i64 0] 32); simpa only [World.size_alloc] using this)
  have C0 : Bx (((w.alloc (.cells #[.slice x1 c.regs.length y1, .int .u32 c.pc, .slice x2 c.data.length y2, .slice x3 c.stack.length y3, .slice x4 c.inn.length y4, .slice x5 c.out.length y5, .int .u32 c.low, .int .i64 c.st] 29)).alloc (.cells #[.slice none 0 0, .int .u32 0, .slice none 0 0, .slice none 0 0, .slice none 0 0, .slice none 0 0, .int .u32 0, .int .i64 0] 32)).alloc (.cells #[.slice none 0 0, .int .u32 0, .slice none 0 0, .slice none 0 0, .slice none 0 0, .slice none 0 0, .int .u32 0, .int .i64 0] 32)) (w.heap.size + 1 + 1) (.slice none 0 0) (.int .u32 0) (.slice none 0 0) (.slice none 0 0) (.slice none 0 0) (.slice none 0 0) (.int .u32 0) (.int .i64 0) := Bx.of_heap (by have := heap_alloc_new ((w.alloc (.cells #[.slice x1 c.regs.length y1, .int .u32 c.pc, .slice x2 c.data.length y2, .slice x3 c.stack.length y3, .slice x4 c.inn.length y4, .slice x5 c.out.length y5, .int .u32 c.low, .int .i64 c.st] 29)).alloc (.cells #[.slice none 0 0, .int .u32 0, .slice none 0 0, .slice none 0 0, .slice none 0 0, .slice none 0 0, .int .u32 0, .int .i64 0] 32)) (.cells #[.slice none 0 0, .int .u32 0, .slice none 0 0, .slice none 0 0, .slice none 0 0, .slice none 0 0, .int .u32 0, .int .i64 0] 32); simpa only [World.size_alloc] using this)
  have HL : Hid _ := And.intro hr (And.intro hd (And.intro hs' (And.intro hi (And.intro ho hs))))
  obtain ⟨V0, hV0⟩ : ∃ V0, V0 = (((w.alloc (.cells #[.slice x1 c.regs.length y1, .int .u32 c.pc, .slice x2 c.data.length y2, .slice x3 c.stack.length y3, .slice x4 c.inn.length y4, .slice x5 c.out.length y5, .int .u32 c.low, .int .i64 c.st] 29)).alloc (.cells #[.slice none 0 0, .int .u32 0, .slice none 0 0, .slice none 0 0, .slice none 0 0, .slice none 0 0, .int .u32 0, .int .i64 0] 32)).alloc (.cells #[.slice none 0 0, .int .u32 0, .slice none 0 0, .slice none 0 0, .slice none 0 0, .slice none 0 0, .int .u32 0, .int .i64 0] 32)) := ⟨_, rfl⟩
  have z0 : V0.heap.size = w.heap.size + 3 := by rw [hV0]; simp
  rw [← hV0] at B0 S0 R0 C0
  have HB0 : Hid _ := And.intro B0 (And.intro C0 (And.intro R0 S0))
  clear hr hd hs' hi ho hs B0 C0 R0 S0
  go_enter Tryz.func8, Tryz.ntmps8
  go_upto_region 2 with fail
  rw [← hV0]
  clear hV0
  obtain ⟨d10, d11, d12, d13, d14, d15, d16, d17, d1f⟩ := id HB0.out.2.2.2
  obtain ⟨c10, c11, c12, c13, c14, c15, c16, c17, c1f⟩ := id HB0.out.2.1
  go_wp2_with fail
  refine (to_u32 _ c.regs V0 HL.out.2.2.2.2.2.1 (Rds.below HL.out.1 HB0.out.1)).mono ?_
  rintro e w1 ⟨p1, q1, rfl, n1, hb1⟩
  have s1 := hb1.size
  have CB1 := HB0.out.2.1.below hb1
  have RB1 := HB0.out.2.2.1.below hb1
  have SB1 := HB0.out.2.2.2.below hb1
  have l1 : ∀ g ∈ obk (.slice (some ⟨p1, 0, none⟩) c.regs.length q1), g < w1.heap.size := fun g hg => ((own_obk n1).2 g hg).2
  clear d10 d11 d12 d13 d14 d15 d16 d17 d1f c10 c11 c12 c13 c14 c15 c16 c17 c1f
  obtain ⟨c10, c11, c12, c13, c14, c15, c16, c17, c1f⟩ := id CB1
  obtain ⟨d10, d11, d12, d13, d14, d15, d16, d17, d1f⟩ := id SB1
  go_upto_region 4 with fail
  have T1 := (((Tcs.refl (fun k => k = w.heap.size + 1 + 1) w1).setCell (p := ⟨w.heap.size + 1 + 1, 0, none⟩) rfl (.slice (some ⟨p1, 0, none⟩) c.regs.length q1)).setCell (p := ⟨w.heap.size + 1 + 1, 1, none⟩) rfl (.int .u32 c.pc))
  obtain ⟨V1, hV1⟩ : ∃ V1, V1 = ((w1.setCell ⟨w.heap.size + 1 + 1, 0, none⟩ (.slice (some ⟨p1, 0, none⟩) c.regs.length q1)).setCell ⟨w.heap.size + 1 + 1, 1, none⟩ (.int .u32 c.pc)) := ⟨_, rfl⟩
  rw [← hV1] at T1 ⊢
  have C1 : Bx V1 (w.heap.size + 1 + 1) (.slice (some ⟨p1, 0, none⟩) c.regs.length q1) (.int .u32 c.pc) (.slice none 0 0) (.slice none 0 0) (.slice none 0 0) (.slice none 0 0) (.int .u32 0) (.int .i64 0) := by rw [hV1]; exact ((CB1.s0 _).s1 _)
  have R1 := RB1.keep (T1.block _ RB1.lt (by omega))
  have S1 := SB1.keep (T1.block _ SB1.lt (by omega))
  have zv1 : V1.heap.size = w1.heap.size := by rw [hV1]; simp
  have N1 := own_tcs n1 T1 (fun g hg e => by have := ((own_obk n1).2 g hg).1; have := HB0.out.1.size; omega)
  have BB1 : Below w.heap.size w V1 := T1.below (HB0.out.1.trans (hb1.mono HB0.out.1.size)) (by have := HB0.out.1.size; omega) (by rintro k rfl; omega)
  have M1_1 : Hid _ := N1
  have HB1 : Hid _ := And.intro BB1 (And.intro C1 (And.intro R1 S1))
  clear hV1 C1 R1 S1 N1 BB1 CB1 RB1 SB1 T1 n1 hb1 c10 c11 c12 c13 c14 c15 c16 c17 c1f d10 d11 d12 d13 d14 d15 d16 d17 d1f 
  obtain ⟨d20, d21, d22, d23, d24, d25, d26, d27, d2f⟩ := id HB1.out.2.2.2
  obtain ⟨c20, c21, c22, c23, c24, c25, c26, c27, c2f⟩ := id HB1.out.2.1
  go_wp2_with fail
  refine (to_u8 _ c.data V1 HL.out.2.2.2.2.2.2.1 (Rds.below HL.out.2.1 HB1.out.1)).mono ?_
  rintro e w2 ⟨p2, q2, rfl, n2, hb2⟩
  have s2 := hb2.size
  have CB2 := HB1.out.2.1.below hb2
  have RB2 := HB1.out.2.2.1.below hb2
  have SB2 := HB1.out.2.2.2.below hb2
  have l2 : ∀ g ∈ obk (.slice (some ⟨p2, 0, none⟩) c.data.length q2), g < w2.heap.size := fun g hg => ((own_obk n2).2 g hg).2
  clear d20 d21 d22 d23 d24 d25 d26 d27 d2f c20 c21 c22 c23 c24 c25 c26 c27 c2f
  obtain ⟨c20, c21, c22, c23, c24, c25, c26, c27, c2f⟩ := id CB2
  obtain ⟨d20, d21, d22, d23, d24, d25, d26, d27, d2f⟩ := id SB2
  go_upto_region 5 with fail
  have T2 := ((Tcs.refl (fun k => k = w.heap.size + 1 + 1) w2).setCell (p := ⟨w.heap.size + 1 + 1, 2, none⟩) rfl (.slice (some ⟨p2, 0, none⟩) c.data.length q2))
  obtain ⟨V2, hV2⟩ : ∃ V2, V2 = (w2.setCell ⟨w.heap.size + 1 + 1, 2, none⟩ (.slice (some ⟨p2, 0, none⟩) c.data.length q2)) := ⟨_, rfl⟩
  rw [← hV2] at T2 ⊢
  have C2 : Bx V2 (w.heap.size + 1 + 1) (.slice (some ⟨p1, 0, none⟩) c.regs.length q1) (.int .u32 c.pc) (.slice (some ⟨p2, 0, none⟩) c.data.length q2) (.slice none 0 0) (.slice none 0 0) (.slice none 0 0) (.int .u32 0) (.int .i64 0) := by rw [hV2]; exact (CB2.s2 _)
  have R2 := RB2.keep (T2.block _ RB2.lt (by omega))
  have S2 := SB2.keep (T2.block _ SB2.lt (by omega))
  have zv2 : V2.heap.size = w2.heap.size := by rw [hV2]; simp
  have N2 := own_tcs n2 T2 (fun g hg e => by have := ((own_obk n2).2 g hg).1; have := HB1.out.1.size; omega)
  have N21 := own_tcs (own_below M1_1.out hb2) T2 (fun g hg e => by have := ((own_obk M1_1.out).2 g hg).1; omega)
  have BB2 : Below w.heap.size w V2 := T2.below (HB1.out.1.trans (hb2.mono HB1.out.1.size)) (by have := HB1.out.1.size; omega) (by rintro k rfl; omega)
  have M2_1 : Hid _ := N21
  have M2_2 : Hid _ := N2
  have HB2 : Hid _ := And.intro BB2 (And.intro C2 (And.intro R2 S2))
  clear hV2 C2 R2 S2 N2 BB2 CB2 RB2 SB2 T2 n2 hb2 c20 c21 c22 c23 c24 c25 c26 c27 c2f d20 d21 d22 d23 d24 d25 d26 d27 d2f N21
  obtain ⟨d30, d31, d32, d33, d34, d35, d36, d37, d3f⟩ := id HB2.out.2.2.2
  obtain ⟨c30, c31, c32, c33, c34, c35, c36, c37, c3f⟩ := id HB2.out.2.1
  go_wp2_with fail
  refine (to_u8 _ c.stack V2 HL.out.2.2.2.2.2.2.2.1 (Rds.below HL.out.2.2.1 HB2.out.1)).mono ?_
  rintro e w3 ⟨p3, q3, rfl, n3, hb3⟩
  have s3 := hb3.size
  have CB3 := HB2.out.2.1.below hb3
  have RB3 := HB2.out.2.2.1.below hb3
  have SB3 := HB2.out.2.2.2.below hb3
  have l3 : ∀ g ∈ obk (.slice (some ⟨p3, 0, none⟩) c.stack.length q3), g < w3.heap.size := fun g hg => ((own_obk n3).2 g hg).2
  clear d30 d31 d32 d33 d34 d35 d36 d37 d3f c30 c31 c32 c33 c34 c35 c36 c37 c3f
  obtain ⟨c30, c31, c32, c33, c34, c35, c36, c37, c3f⟩ := id CB3
  obtain ⟨d30, d31, d32, d33, d34, d35, d36, d37, d3f⟩ := id SB3
  go_upto_region 6 with fail
  have T3 := ((Tcs.refl (fun k => k = w.heap.size + 1 + 1) w3).setCell (p := ⟨w.heap.size + 1 + 1, 3, none⟩) rfl (.slice (some ⟨p3, 0, none⟩) c.stack.length q3))
  obtain ⟨V3, hV3⟩ : ∃ V3, V3 = (w3.setCell ⟨w.heap.size + 1 + 1, 3, none⟩ (.slice (some ⟨p3, 0, none⟩) c.stack.length q3)) := ⟨_, rfl⟩
  rw [← hV3] at T3 ⊢
  have C3 : Bx V3 (w.heap.size + 1 + 1) (.slice (some ⟨p1, 0, none⟩) c.regs.length q1) (.int .u32 c.pc) (.slice (some ⟨p2, 0, none⟩) c.data.length q2) (.slice (some ⟨p3, 0, none⟩) c.stack.length q3) (.slice none 0 0) (.slice none 0 0) (.int .u32 0) (.int .i64 0) := by rw [hV3]; exact (CB3.s3 _)
  have R3 := RB3.keep (T3.block _ RB3.lt (by omega))
  have S3 := SB3.keep (T3.block _ SB3.lt (by omega))
  have zv3 : V3.heap.size = w3.heap.size := by rw [hV3]; simp
  have N3 := own_tcs n3 T3 (fun g hg e => by have := ((own_obk n3).2 g hg).1; have := HB2.out.1.size; omega)
  have N31 := own_tcs (own_below M2_1.out hb3) T3 (fun g hg e => by have := ((own_obk M2_1.out).2 g hg).1; omega)
  have N32 := own_tcs (own_below M2_2.out hb3) T3 (fun g hg e => by have := ((own_obk M2_2.out).2 g hg).1; omega)
  have BB3 : Below w.heap.size w V3 := T3.below (HB2.out.1.trans (hb3.mono HB2.out.1.size)) (by have := HB2.out.1.size; omega) (by rintro k rfl; omega)
  have M3_1 : Hid _ := N31
  have M3_2 : Hid _ := N32
  have M3_3 : Hid _ := N3
  have HB3 : Hid _ := And.intro BB3 (And.intro C3 (And.intro R3 S3))
  clear hV3 C3 R3 S3 N3 BB3 CB3 RB3 SB3 T3 n3 hb3 c30 c31 c32 c33 c34 c35 c36 c37 c3f d30 d31 d32 d33 d34 d35 d36 d37 d3f N31 N32
  obtain ⟨d40, d41, d42, d43, d44, d45, d46, d47, d4f⟩ := id HB3.out.2.2.2
  obtain ⟨c40, c41, c42, c43, c44, c45, c46, c47, c4f⟩ := id HB3.out.2.1
  go_wp2_with fail
  refine (to_i64 _ c.inn V3 HL.out.2.2.2.2.2.2.2.2.1 (Rds.below HL.out.2.2.2.1 HB3.out.1)).mono ?_
  rintro e w4 ⟨p4, q4, rfl, n4, hb4⟩
  have s4 := hb4.size
  have CB4 := HB3.out.2.1.below hb4
  have RB4 := HB3.out.2.2.1.below hb4
  have SB4 := HB3.out.2.2.2.below hb4
  have l4 : ∀ g ∈ obk (.slice (some ⟨p4, 0, none⟩) c.inn.length q4), g < w4.heap.size := fun g hg => ((own_obk n4).2 g hg).2
  clear d40 d41 d42 d43 d44 d45 d46 d47 d4f c40 c41 c42 c43 c44 c45 c46 c47 c4f
  obtain ⟨c40, c41, c42, c43, c44, c45, c46, c47, c4f⟩ := id CB4
  obtain ⟨d40, d41, d42, d43, d44, d45, d46, d47, d4f⟩ := id SB4
  go_upto_region 7 with fail
  have T4 := ((Tcs.refl (fun k => k = w.heap.size + 1 + 1) w4).setCell (p := ⟨w.heap.size + 1 + 1, 4, none⟩) rfl (.slice (some ⟨p4, 0, none⟩) c.inn.length q4))
  obtain ⟨V4, hV4⟩ : ∃ V4, V4 = (w4.setCell ⟨w.heap.size + 1 + 1, 4, none⟩ (.slice (some ⟨p4, 0, none⟩) c.inn.length q4)) := ⟨_, rfl⟩
  rw [← hV4] at T4 ⊢
  have C4 : Bx V4 (w.heap.size + 1 + 1) (.slice (some ⟨p1, 0, none⟩) c.regs.length q1) (.int .u32 c.pc) (.slice (some ⟨p2, 0, none⟩) c.data.length q2) (.slice (some ⟨p3, 0, none⟩) c.stack.length q3) (.slice (some ⟨p4, 0, none⟩) c.inn.length q4) (.slice none 0 0) (.int .u32 0) (.int .i64 0) := by rw [hV4]; exact (CB4.s4 _)
  have R4 := RB4.keep (T4.block _ RB4.lt (by omega))
  have S4 := SB4.keep (T4.block _ SB4.lt (by omega))
  have zv4 : V4.heap.size = w4.heap.size := by rw [hV4]; simp
  have N4 := own_tcs n4 T4 (fun g hg e => by have := ((own_obk n4).2 g hg).1; have := HB3.out.1.size; omega)
  have N41 := own_tcs (own_below M3_1.out hb4) T4 (fun g hg e => by have := ((own_obk M3_1.out).2 g hg).1; omega)
  have N42 := own_tcs (own_below M3_2.out hb4) T4 (fun g hg e => by have := ((own_obk M3_2.out).2 g hg).1; omega)
  have N43 := own_tcs (own_below M3_3.out hb4) T4 (fun g hg e => by have := ((own_obk M3_3.out).2 g hg).1; omega)
  have BB4 : Below w.heap.size w V4 := T4.below (HB3.out.1.trans (hb4.mono HB3.out.1.size)) (by have := HB3.out.1.size; omega) (by rintro k rfl; omega)
  have M4_1 : Hid _ := N41
  have M4_2 : Hid _ := N42
  have M4_3 : Hid _ := N43
  have M4_4 : Hid _ := N4
  have HB4 : Hid _ := And.intro BB4 (And.intro C4 (And.intro R4 S4))
  clear hV4 C4 R4 S4 N4 BB4 CB4 RB4 SB4 T4 n4 hb4 c40 c41 c42 c43 c44 c45 c46 c47 c4f d40 d41 d42 d43 d44 d45 d46 d47 d4f N41 N42 N43
  obtain ⟨d50, d51, d52, d53, d54, d55, d56, d57, d5f⟩ := id HB4.out.2.2.2
  obtain ⟨c50, c51, c52, c53, c54, c55, c56, c57, c5f⟩ := id HB4.out.2.1
  go_wp2_with fail
  refine (to_i64 _ c.out V4 HL.out.2.2.2.2.2.2.2.2.2 (Rds.below HL.out.2.2.2.2.1 HB4.out.1)).mono ?_
  rintro e w5 ⟨p5, q5, rfl, n5, hb5⟩
  have s5 := hb5.size
  have CB5 := HB4.out.2.1.below hb5
  have RB5 := HB4.out.2.2.1.below hb5
  have SB5 := HB4.out.2.2.2.below hb5
  have l5 : ∀ g ∈ obk (.slice (some ⟨p5, 0, none⟩) c.out.length q5), g < w5.heap.size := fun g hg => ((own_obk n5).2 g hg).2
  clear d50 d51 d52 d53 d54 d55 d56 d57 d5f c50 c51 c52 c53 c54 c55 c56 c57 c5f
  obtain ⟨c50, c51, c52, c53, c54, c55, c56, c57, c5f⟩ := id CB5
  obtain ⟨d50, d51, d52, d53, d54, d55, d56, d57, d5f⟩ := id SB5
  go_upto_region 10 with fail
  have T5 := ((((Tcs.refl (fun k => k = w.heap.size + 1 + 1) w5).setCell (p := ⟨w.heap.size + 1 + 1, 5, none⟩) rfl (.slice (some ⟨p5, 0, none⟩) c.out.length q5)).setCell (p := ⟨w.heap.size + 1 + 1, 6, none⟩) rfl (.int .u32 c.low)).setCell (p := ⟨w.heap.size + 1 + 1, 7, none⟩) rfl (.int .i64 c.st))
  obtain ⟨V5, hV5⟩ : ∃ V5, V5 = (((w5.setCell ⟨w.heap.size + 1 + 1, 5, none⟩ (.slice (some ⟨p5, 0, none⟩) c.out.length q5)).setCell ⟨w.heap.size + 1 + 1, 6, none⟩ (.int .u32 c.low)).setCell ⟨w.heap.size + 1 + 1, 7, none⟩ (.int .i64 c.st)) := ⟨_, rfl⟩
  rw [← hV5] at T5 ⊢
  have C5 : Bx V5 (w.heap.size + 1 + 1) (.slice (some ⟨p1, 0, none⟩) c.regs.length q1) (.int .u32 c.pc) (.slice (some ⟨p2, 0, none⟩) c.data.length q2) (.slice (some ⟨p3, 0, none⟩) c.stack.length q3) (.slice (some ⟨p4, 0, none⟩) c.inn.length q4) (.slice (some ⟨p5, 0, none⟩) c.out.length q5) (.int .u32 c.low) (.int .i64 c.st) := by rw [hV5]; exact (((CB5.s5 _).s6 _).s7 _)
  have R5 := RB5.keep (T5.block _ RB5.lt (by omega))
  have S5 := SB5.keep (T5.block _ SB5.lt (by omega))
  have zv5 : V5.heap.size = w5.heap.size := by rw [hV5]; simp
  have N5 := own_tcs n5 T5 (fun g hg e => by have := ((own_obk n5).2 g hg).1; have := HB4.out.1.size; omega)
  have N51 := own_tcs (own_below M4_1.out hb5) T5 (fun g hg e => by have := ((own_obk M4_1.out).2 g hg).1; omega)
  have N52 := own_tcs (own_below M4_2.out hb5) T5 (fun g hg e => by have := ((own_obk M4_2.out).2 g hg).1; omega)
  have N53 := own_tcs (own_below M4_3.out hb5) T5 (fun g hg e => by have := ((own_obk M4_3.out).2 g hg).1; omega)
  have N54 := own_tcs (own_below M4_4.out hb5) T5 (fun g hg e => by have := ((own_obk M4_4.out).2 g hg).1; omega)
  have BB5 : Below w.heap.size w V5 := T5.below (HB4.out.1.trans (hb5.mono HB4.out.1.size)) (by have := HB4.out.1.size; omega) (by rintro k rfl; omega)
  have M5_1 : Hid _ := N51
  have M5_2 : Hid _ := N52
  have M5_3 : Hid _ := N53
  have M5_4 : Hid _ := N54
  have M5_5 : Hid _ := N5
  have HB5 : Hid _ := And.intro BB5 (And.intro C5 (And.intro R5 S5))
  clear hV5 C5 R5 S5 N5 BB5 CB5 RB5 SB5 T5 n5 hb5 c50 c51 c52 c53 c54 c55 c56 c57 c5f d50 d51 d52 d53 d54 d55 d56 d57 d5f N51 N52 N53 N54
  obtain ⟨c60, c61, c62, c63, c64, c65, c66, c67, c6f⟩ := id HB5.out.2.1
  obtain ⟨z0', z1, z2, z3, z4, z5, z6, z7, zf⟩ := id HB5.out.2.2.1
  go_wp2
  refine bodyPost_ret (v := .agg #[.slice (some ⟨p1, 0, none⟩) c.regs.length q1, .int .u32 c.pc, .slice (some ⟨p2, 0, none⟩) c.data.length q2, .slice (some ⟨p3, 0, none⟩) c.stack.length q3, .slice (some ⟨p4, 0, none⟩) c.inn.length q4, .slice (some ⟨p5, 0, none⟩) c.out.length q5, .int .u32 c.low, .int .i64 c.st]) (by simp [results, Tryz.results8, go_sem, z0', z1, z2, z3, z4, z5, z6, z7]) rfl ?_
  have TR := (Tcs.refl (fun k => k = w.heap.size + 1) V5).set8 _ rfl (.slice (some ⟨p1, 0, none⟩) c.regs.length q1) (.int .u32 c.pc) (.slice (some ⟨p2, 0, none⟩) c.data.length q2) (.slice (some ⟨p3, 0, none⟩) c.stack.length q3) (.slice (some ⟨p4, 0, none⟩) c.inn.length q4) (.slice (some ⟨p5, 0, none⟩) c.out.length q5) (.int .u32 c.low) (.int .i64 c.st)
  have hx : ∀ {b : Nat} {v : Value} {n : Nat} {ty : Nat} {xs : List Value}, V5.ownsRow b ty 1 v n xs → w.heap.size + 3 ≤ b → ∀ g ∈ obk v, ¬ (g = w.heap.size + 1) := fun ho hb g hg e => by have := ((own_obk ho).2 g hg).1; omega
  exact ⟨_, _, _, _, _, _, _, _, _, _, rfl, copy_close (own_tcs M5_1.out TR (hx M5_1.out (by omega))) (own_tcs M5_2.out TR (hx M5_2.out (by omega))) (own_tcs M5_3.out TR (hx M5_3.out (by omega))) (own_tcs M5_4.out TR (hx M5_4.out (by omega))) (own_tcs M5_5.out TR (hx M5_5.out (by omega))) (fun g hg => by have := l1 g hg; omega) (fun g hg => by have := l2 g hg; omega) (fun g hg => by have := l3 g hg; omega) (fun g hg => by have := l4 g hg; omega) (by omega), TR.below HB5.out.1 HB5.out.1.size (by rintro k rfl; omega)⟩

end Go.Proofs.YtabjcodpagjbjaaGreat
