import Derived.Deep.Cut
import Derived.Test.YtabjcodpagjbjaaP31
import Derived.Deep.RegionHeld3
import Derived.Test.YtabjcodpagjbjaaP00
import Derived.Test.YtabjcodpagjbjaaP12
namespace Go.Proofs.Ytabjcodpagjbjaa
open Go.RowKit
set_option linter.unusedVariables false
set_option linter.unusedSectionVars false
set_option linter.unusedSimpArgs false
variable [Inhabited Pick]

theorem own_base2 {W : World} {B B' e n : Nat} {v : Value} {xs : List Value} (h : W.ownsRow B e 1 v n xs) (hb : ∀ g ∈ obk v, B' ≤ g) : W.ownsRow B' e 1 v n xs := by
  refine ⟨h.1, ?_⟩
  rcases h.2 with h0 | ⟨g, cap, cur, rfl, hbg, hr⟩
  · exact .inl h0
  · exact .inr ⟨g, cap, cur, rfl, hb g (by simp [obk]), hr⟩
theorem CpuAt.toV2 {w : World} {B : Nat} {v : Value} {c : Mc} (h : CpuAt w B v c) : ∃ L, CpuV w v L c ∧ ∀ g ∈ L, B ≤ g := by
  obtain ⟨r, d, s, i, o, rfl, hr, hd, hs, hi, ho, hnd, hB, hk⟩ := h
  exact ⟨_, ⟨r, d, s, i, o, rfl, hr, hd, hs, hi, own_mono ho (Nat.zero_le _), hk, rfl, hnd⟩, hB⟩
theorem CpuV.toAt2 {w : World} {B : Nat} {v : Value} {L : List Nat} {c : Mc} (h : CpuV w v L c) (hB : ∀ g ∈ L, B ≤ g) : CpuAt w B v c := by
  obtain ⟨r, d, s, i, o, rfl, hr, hd, hs, hi, ho, hk, rfl, hnd⟩ := h
  exact ⟨r, d, s, i, o, rfl, hr, hd, hs, hi, own_base2 ho (fun g hg => hB g (by simp [hg])), hnd, hB, hk⟩
theorem CpuV.toIn2 {W : World} {C : Nat} {L : List Nat} {c : Mc} {r d s i o : Value} (hb : Bx W C r (.int .u32 c.pc) d s i o (.int .u32 c.low) (.int .i64 c.st)) (h : CpuV W (.agg #[r, .int .u32 c.pc, d, s, i, o, .int .u32 c.low, .int .i64 c.st]) L c) (hn : C ∉ L) : CpuIn W C (C :: L) c := by
  obtain ⟨r', d', s', i', o', hv, hr, hd, hs, hi, ho, hk, rfl, hnd⟩ := h
  simp only [Value.agg.injEq, Array.mk.injEq, List.cons.injEq, and_true, true_and] at hv
  obtain ⟨rfl, rfl, rfl, rfl, rfl⟩ := hv
  exact ⟨_, _, _, _, _, hb, hr, hd, hs, hi, ho, hk, rfl, List.nodup_cons.mpr ⟨hn, hnd⟩⟩


theorem copy_close {W : World} {B b1 b2 b3 b4 b5 : Nat} {r d s i o : Value} {c : Mc} (o1 : W.ownsRow b1 30 1 r c.regs.length (c.regs.map (Value.int .u32))) (o2 : W.ownsRow b2 5 1 d c.data.length (c.data.map (Value.int .u8))) (o3 : W.ownsRow b3 5 1 s c.stack.length (c.stack.map (Value.int .u8)))
    (o4 : W.ownsRow b4 2 1 i c.inn.length (c.inn.map (Value.int .i64))) (o5 : W.ownsRow b5 2 1 o c.out.length (c.out.map (Value.int .i64))) (q1 : ∀ g ∈ obk r, g < b2) (q2 : ∀ g ∈ obk d, g < b3) (q3 : ∀ g ∈ obk s, g < b4) (q4 : ∀ g ∈ obk i, g < b5) (hb : B ≤ b1 ∧ b1 ≤ b2 ∧ b2 ≤ b3 ∧ b3 ≤ b4 ∧ b4 ≤ b5) :
    CpuAt W B (.agg #[r, .int .u32 c.pc, d, s, i, o, .int .u32 c.low, .int .i64 c.st]) c := by
  have p1 := (own_obk o1).2
  have p2 := (own_obk o2).2
  have p3 := (own_obk o3).2
  have p4 := (own_obk o4).2
  have p5 := own_obk o5
  have hnb : ∀ v : Value, (blk v).Nodup := by
    intro v
    unfold blk
    split <;> simp
  refine ⟨r, d, s, i, o, rfl, (Lis.of_own o1).1, (Lis.of_own o2).1, (Lis.of_own o3).1, (Lis.of_own o4).1, own_mono o5 (by omega), ?_, ?_, own_cap o2, own_cap o3, own_cap o4⟩
  · simp only [List.nodup_append, List.mem_append]
    refine ⟨⟨⟨⟨hnb _, hnb _, fun x hx y hy => ?_⟩, hnb _, fun x hx y hy => ?_⟩, hnb _, fun x hx y hy => ?_⟩, p5.1, fun x hx y hy => ?_⟩
    · have h1 := q1 x (blk_obk hx)
      have h2 := p2 y (blk_obk hy)
      omega
    · have h2 := p3 y (blk_obk hy)
      rcases hx with hx | hx
      · have h1 := q1 x (blk_obk hx); omega
      · have h1 := q2 x (blk_obk hx); omega
    · have h2 := p4 y (blk_obk hy)
      rcases hx with (hx | hx) | hx
      · have h1 := q1 x (blk_obk hx); omega
      · have h1 := q2 x (blk_obk hx); omega
      · have h1 := q3 x (blk_obk hx); omega
    · have h2 := p5.2 y hy
      rcases hx with ((hx | hx) | hx) | hx
      · have h1 := q1 x (blk_obk hx); omega
      · have h1 := q2 x (blk_obk hx); omega
      · have h1 := q3 x (blk_obk hx); omega
      · have h1 := q4 x (blk_obk hx); omega
  · intro g hg
    simp only [List.mem_append] at hg
    rcases hg with (((hg | hg) | hg) | hg) | hg
    · have := p1 g (blk_obk hg); omega
    · have := p2 g (blk_obk hg); omega
    · have := p3 g (blk_obk hg); omega
    · have := p4 g (blk_obk hg); omega
    · have := p5.2 g hg; omega


set_option maxRecDepth 8000 in
set_option maxHeartbeats 1000000 in
theorem cc_any (v : Value) (L : List Nat) (c : Mc) (w : World) (h : CpuV w v L c) (hs : c.regs.length ≤ 2097152 ∧ c.data.length ≤ 2097152 ∧ c.stack.length ≤ 2097152 ∧ c.inn.length ≤ 2097152 ∧ c.out.length ≤ 2097152) :
    Calls Try.prog 38 #[v] w fun e w' => ∃ u, e = .returned u ∧ CpuAt w' w.heap.size u c ∧ Below w.heap.size w w' := by
  obtain ⟨r, dv, sv, iv, ov, rfl, hr, hd, hs', hi, ho, hk, rfl, hnd⟩ := h
  have ho' := (Lis.of_own ho).1
  obtain ⟨x1, y1, rfl⟩ := hr.len0
  obtain ⟨x2, y2, rfl⟩ := hd.len0
  obtain ⟨x3, y3, rfl⟩ := hs'.len0
  obtain ⟨x4, y4, rfl⟩ := hi.len0
  obtain ⟨x5, y5, rfl⟩ := ho'.len0
  have B0 : Below w.heap.size w ((w.alloc (.cells #[.slice x1 c.regs.length y1, .int .u32 c.pc, .slice x2 c.data.length y2, .slice x3 c.stack.length y3, .slice x4 c.inn.length y4, .slice x5 c.out.length y5, .int .u32 c.low, .int .i64 c.st] 32)).alloc (.cells #[.slice none 0 0, .int .u32 0, .slice none 0 0, .slice none 0 0, .slice none 0 0, .slice none 0 0, .int .u32 0, .int .i64 0] 32)) := ((Below.refl _ _).alloc (Nat.le_refl _) _).alloc (by simp) _
  have C0 : Bx ((w.alloc (.cells #[.slice x1 c.regs.length y1, .int .u32 c.pc, .slice x2 c.data.length y2, .slice x3 c.stack.length y3, .slice x4 c.inn.length y4, .slice x5 c.out.length y5, .int .u32 c.low, .int .i64 c.st] 32)).alloc (.cells #[.slice none 0 0, .int .u32 0, .slice none 0 0, .slice none 0 0, .slice none 0 0, .slice none 0 0, .int .u32 0, .int .i64 0] 32)) w.heap.size (.slice x1 c.regs.length y1) (.int .u32 c.pc) (.slice x2 c.data.length y2) (.slice x3 c.stack.length y3) (.slice x4 c.inn.length y4) (.slice x5 c.out.length y5) (.int .u32 c.low) (.int .i64 c.st) := Bx.of_heap (by rw [Below.heap_alloc _ _ _ (by simp)]; exact heap_alloc_new w _)
  have R0 : Bx ((w.alloc (.cells #[.slice x1 c.regs.length y1, .int .u32 c.pc, .slice x2 c.data.length y2, .slice x3 c.stack.length y3, .slice x4 c.inn.length y4, .slice x5 c.out.length y5, .int .u32 c.low, .int .i64 c.st] 32)).alloc (.cells #[.slice none 0 0, .int .u32 0, .slice none 0 0, .slice none 0 0, .slice none 0 0, .slice none 0 0, .int .u32 0, .int .i64 0] 32)) (w.heap.size + 1) (.slice none 0 0) (.int .u32 0) (.slice none 0 0) (.slice none 0 0) (.slice none 0 0) (.slice none 0 0) (.int .u32 0) (.int .i64 0) := Bx.of_heap (by have := heap_alloc_new (w.alloc (.cells #[.slice x1 c.regs.length y1, .int .u32 c.pc, .slice x2 c.data.length y2, .slice x3 c.stack.length y3, .slice x4 c.inn.length y4, .slice x5 c.out.length y5, .int .u32 c.low, .int .i64 c.st] 32)) (.cells #[.slice none 0 0, .int .u32 0, .slice none 0 0, .slice none 0 0, .slice none 0 0, .slice none 0 0, .int .u32 0, .int .i64 0] 32); simpa only [World.size_alloc] using this)
  have HL : Hid _ := And.intro hr (And.intro hd (And.intro hs' (And.intro hi (And.intro ho' hs))))
  have z0 : (((w.alloc (.cells #[.slice x1 c.regs.length y1, .int .u32 c.pc, .slice x2 c.data.length y2, .slice x3 c.stack.length y3, .slice x4 c.inn.length y4, .slice x5 c.out.length y5, .int .u32 c.low, .int .i64 c.st] 32)).alloc (.cells #[.slice none 0 0, .int .u32 0, .slice none 0 0, .slice none 0 0, .slice none 0 0, .slice none 0 0, .int .u32 0, .int .i64 0] 32))).heap.size = w.heap.size + 2 := by simp
  have HB0 : Hid _ := And.intro B0 (And.intro C0 R0)
  clear hr hd hs' hi ho ho' hk hnd hs B0 C0 R0
  obtain ⟨V0, hV0⟩ : ∃ V0, V0 = ((w.alloc (.cells #[.slice x1 c.regs.length y1, .int .u32 c.pc, .slice x2 c.data.length y2, .slice x3 c.stack.length y3, .slice x4 c.inn.length y4, .slice x5 c.out.length y5, .int .u32 c.low, .int .i64 c.st] 32)).alloc (.cells #[.slice none 0 0, .int .u32 0, .slice none 0 0, .slice none 0 0, .slice none 0 0, .slice none 0 0, .int .u32 0, .int .i64 0] 32)) := ⟨_, rfl⟩
  rw [← hV0] at z0 HB0
  go_enter Try.func38, Try.ntmps38
  go_upto_region 1 with fail
  rw [← hV0]
  clear hV0
  obtain ⟨c10, c11, c12, c13, c14, c15, c16, c17, c1f⟩ := id HB0.out.2.1
  go_wp2_with fail
  refine (clone_u32 _ c.regs V0 (by have := HL.out.2.2.2.2.2.1; omega) (HL.out.1.below HB0.out.1)).mono ?_
  rintro e w1 ⟨u1, rfl, o1, hb1⟩
  obtain ⟨p1, q1, rfl⟩ := own_slice o1
  have s1 := hb1.size
  have CB1 := HB0.out.2.1.below hb1
  have RB1 := HB0.out.2.2.below hb1
  have T1 := (Tcs.refl (fun k => k = w.heap.size) w1).setCell (p := ⟨w.heap.size, 0, none⟩) rfl (.slice p1 c.regs.length q1)
  have n1 : w1.ownsRow V0.heap.size 30 1 (.slice p1 c.regs.length q1) c.regs.length (c.regs.map (Value.int .u32)) := o1
  have l1 : ∀ g ∈ obk (.slice p1 c.regs.length q1), g < w1.heap.size := fun g hg => ((own_obk o1).2 g hg).2
  clear c10 c11 c12 c13 c14 c15 c16 c17 c1f
  obtain ⟨c10, c11, c12, c13, c14, c15, c16, c17, c1f⟩ := id CB1
  go_upto_region 2 with fail
  obtain ⟨V1, hV1⟩ : ∃ V1, V1 = w1.setCell ⟨w.heap.size, 0, none⟩ (.slice p1 c.regs.length q1) := ⟨_, rfl⟩
  rw [← hV1] at T1 ⊢
  have C1 : Bx V1 w.heap.size (.slice p1 c.regs.length q1) (.int .u32 c.pc) (.slice x2 c.data.length y2) (.slice x3 c.stack.length y3) (.slice x4 c.inn.length y4) (.slice x5 c.out.length y5) (.int .u32 c.low) (.int .i64 c.st) := by rw [hV1]; exact CB1.s0 _
  have R1 := RB1.keep (T1.block _ RB1.lt (by omega))
  have zv1 : V1.heap.size = w1.heap.size := by rw [hV1]; simp
  have N1 := own_tcs n1 T1 (fun g hg e => by have := ((own_obk n1).2 g hg).1; have := HB0.out.1.size; omega)
  have BB1 : Below w.heap.size w V1 := T1.below (HB0.out.1.trans (hb1.mono HB0.out.1.size)) (by have := HB0.out.1.size; omega) (by rintro k rfl; omega)
  have M1_1 : Hid _ := N1
  have HB1 : Hid _ := And.intro BB1 (And.intro C1 (And.intro R1 trivial))
  clear hV1 C1 R1 N1 BB1 CB1 RB1 T1 n1 o1 hb1 c10 c11 c12 c13 c14 c15 c16 c17 c1f 
  obtain ⟨c20, c21, c22, c23, c24, c25, c26, c27, c2f⟩ := id HB1.out.2.1
  go_wp2_with fail
  refine (clone_u8 _ c.data V1 (by have := HL.out.2.2.2.2.2.2.1; omega) (HL.out.2.1.below HB1.out.1)).mono ?_
  rintro e w2 ⟨u2, rfl, o2, hb2⟩
  obtain ⟨p2, q2, rfl⟩ := own_slice o2
  have s2 := hb2.size
  have CB2 := HB1.out.2.1.below hb2
  have RB2 := HB1.out.2.2.1.below hb2
  have T2 := (Tcs.refl (fun k => k = w.heap.size) w2).setCell (p := ⟨w.heap.size, 2, none⟩) rfl (.slice p2 c.data.length q2)
  have n2 : w2.ownsRow V1.heap.size 5 1 (.slice p2 c.data.length q2) c.data.length (c.data.map (Value.int .u8)) := o2
  have l2 : ∀ g ∈ obk (.slice p2 c.data.length q2), g < w2.heap.size := fun g hg => ((own_obk o2).2 g hg).2
  clear c20 c21 c22 c23 c24 c25 c26 c27 c2f
  obtain ⟨c20, c21, c22, c23, c24, c25, c26, c27, c2f⟩ := id CB2
  go_upto_region 3 with fail
  obtain ⟨V2, hV2⟩ : ∃ V2, V2 = w2.setCell ⟨w.heap.size, 2, none⟩ (.slice p2 c.data.length q2) := ⟨_, rfl⟩
  rw [← hV2] at T2 ⊢
  have C2 : Bx V2 w.heap.size (.slice p1 c.regs.length q1) (.int .u32 c.pc) (.slice p2 c.data.length q2) (.slice x3 c.stack.length y3) (.slice x4 c.inn.length y4) (.slice x5 c.out.length y5) (.int .u32 c.low) (.int .i64 c.st) := by rw [hV2]; exact CB2.s2 _
  have R2 := RB2.keep (T2.block _ RB2.lt (by omega))
  have zv2 : V2.heap.size = w2.heap.size := by rw [hV2]; simp
  have N2 := own_tcs n2 T2 (fun g hg e => by have := ((own_obk n2).2 g hg).1; have := HB1.out.1.size; omega)
  have N21 := own_tcs (own_below M1_1.out hb2) T2 (fun g hg e => by have := ((own_obk M1_1.out).2 g hg).1; omega)
  have BB2 : Below w.heap.size w V2 := T2.below (HB1.out.1.trans (hb2.mono HB1.out.1.size)) (by have := HB1.out.1.size; omega) (by rintro k rfl; omega)
  have M2_1 : Hid _ := N21
  have M2_2 : Hid _ := N2
  have HB2 : Hid _ := And.intro BB2 (And.intro C2 (And.intro R2 trivial))
  clear hV2 C2 R2 N2 BB2 CB2 RB2 T2 n2 o2 hb2 c20 c21 c22 c23 c24 c25 c26 c27 c2f N21
  obtain ⟨c30, c31, c32, c33, c34, c35, c36, c37, c3f⟩ := id HB2.out.2.1
  go_wp2_with fail
  refine (clone_u8 _ c.stack V2 (by have := HL.out.2.2.2.2.2.2.2.1; omega) (HL.out.2.2.1.below HB2.out.1)).mono ?_
  rintro e w3 ⟨u3, rfl, o3, hb3⟩
  obtain ⟨p3, q3, rfl⟩ := own_slice o3
  have s3 := hb3.size
  have CB3 := HB2.out.2.1.below hb3
  have RB3 := HB2.out.2.2.1.below hb3
  have T3 := (Tcs.refl (fun k => k = w.heap.size) w3).setCell (p := ⟨w.heap.size, 3, none⟩) rfl (.slice p3 c.stack.length q3)
  have n3 : w3.ownsRow V2.heap.size 5 1 (.slice p3 c.stack.length q3) c.stack.length (c.stack.map (Value.int .u8)) := o3
  have l3 : ∀ g ∈ obk (.slice p3 c.stack.length q3), g < w3.heap.size := fun g hg => ((own_obk o3).2 g hg).2
  clear c30 c31 c32 c33 c34 c35 c36 c37 c3f
  obtain ⟨c30, c31, c32, c33, c34, c35, c36, c37, c3f⟩ := id CB3
  go_upto_region 4 with fail
  obtain ⟨V3, hV3⟩ : ∃ V3, V3 = w3.setCell ⟨w.heap.size, 3, none⟩ (.slice p3 c.stack.length q3) := ⟨_, rfl⟩
  rw [← hV3] at T3 ⊢
  have C3 : Bx V3 w.heap.size (.slice p1 c.regs.length q1) (.int .u32 c.pc) (.slice p2 c.data.length q2) (.slice p3 c.stack.length q3) (.slice x4 c.inn.length y4) (.slice x5 c.out.length y5) (.int .u32 c.low) (.int .i64 c.st) := by rw [hV3]; exact CB3.s3 _
  have R3 := RB3.keep (T3.block _ RB3.lt (by omega))
  have zv3 : V3.heap.size = w3.heap.size := by rw [hV3]; simp
  have N3 := own_tcs n3 T3 (fun g hg e => by have := ((own_obk n3).2 g hg).1; have := HB2.out.1.size; omega)
  have N31 := own_tcs (own_below M2_1.out hb3) T3 (fun g hg e => by have := ((own_obk M2_1.out).2 g hg).1; omega)
  have N32 := own_tcs (own_below M2_2.out hb3) T3 (fun g hg e => by have := ((own_obk M2_2.out).2 g hg).1; omega)
  have BB3 : Below w.heap.size w V3 := T3.below (HB2.out.1.trans (hb3.mono HB2.out.1.size)) (by have := HB2.out.1.size; omega) (by rintro k rfl; omega)
  have M3_1 : Hid _ := N31
  have M3_2 : Hid _ := N32
  have M3_3 : Hid _ := N3
  have HB3 : Hid _ := And.intro BB3 (And.intro C3 (And.intro R3 trivial))
  clear hV3 C3 R3 N3 BB3 CB3 RB3 T3 n3 o3 hb3 c30 c31 c32 c33 c34 c35 c36 c37 c3f N31 N32
  obtain ⟨c40, c41, c42, c43, c44, c45, c46, c47, c4f⟩ := id HB3.out.2.1
  go_wp2_with fail
  refine (clone_i64 _ c.inn V3 (by have := HL.out.2.2.2.2.2.2.2.2.1; omega) (HL.out.2.2.2.1.below HB3.out.1)).mono ?_
  rintro e w4 ⟨u4, rfl, o4, hb4⟩
  obtain ⟨p4, q4, rfl⟩ := own_slice o4
  have s4 := hb4.size
  have CB4 := HB3.out.2.1.below hb4
  have RB4 := HB3.out.2.2.1.below hb4
  have T4 := (Tcs.refl (fun k => k = w.heap.size) w4).setCell (p := ⟨w.heap.size, 4, none⟩) rfl (.slice p4 c.inn.length q4)
  have n4 : w4.ownsRow V3.heap.size 2 1 (.slice p4 c.inn.length q4) c.inn.length (c.inn.map (Value.int .i64)) := o4
  have l4 : ∀ g ∈ obk (.slice p4 c.inn.length q4), g < w4.heap.size := fun g hg => ((own_obk o4).2 g hg).2
  clear c40 c41 c42 c43 c44 c45 c46 c47 c4f
  obtain ⟨c40, c41, c42, c43, c44, c45, c46, c47, c4f⟩ := id CB4
  go_upto_region 5 with fail
  obtain ⟨V4, hV4⟩ : ∃ V4, V4 = w4.setCell ⟨w.heap.size, 4, none⟩ (.slice p4 c.inn.length q4) := ⟨_, rfl⟩
  rw [← hV4] at T4 ⊢
  have C4 : Bx V4 w.heap.size (.slice p1 c.regs.length q1) (.int .u32 c.pc) (.slice p2 c.data.length q2) (.slice p3 c.stack.length q3) (.slice p4 c.inn.length q4) (.slice x5 c.out.length y5) (.int .u32 c.low) (.int .i64 c.st) := by rw [hV4]; exact CB4.s4 _
  have R4 := RB4.keep (T4.block _ RB4.lt (by omega))
  have zv4 : V4.heap.size = w4.heap.size := by rw [hV4]; simp
  have N4 := own_tcs n4 T4 (fun g hg e => by have := ((own_obk n4).2 g hg).1; have := HB3.out.1.size; omega)
  have N41 := own_tcs (own_below M3_1.out hb4) T4 (fun g hg e => by have := ((own_obk M3_1.out).2 g hg).1; omega)
  have N42 := own_tcs (own_below M3_2.out hb4) T4 (fun g hg e => by have := ((own_obk M3_2.out).2 g hg).1; omega)
  have N43 := own_tcs (own_below M3_3.out hb4) T4 (fun g hg e => by have := ((own_obk M3_3.out).2 g hg).1; omega)
  have BB4 : Below w.heap.size w V4 := T4.below (HB3.out.1.trans (hb4.mono HB3.out.1.size)) (by have := HB3.out.1.size; omega) (by rintro k rfl; omega)
  have M4_1 : Hid _ := N41
  have M4_2 : Hid _ := N42
  have M4_3 : Hid _ := N43
  have M4_4 : Hid _ := N4
  have HB4 : Hid _ := And.intro BB4 (And.intro C4 (And.intro R4 trivial))
  clear hV4 C4 R4 N4 BB4 CB4 RB4 T4 n4 o4 hb4 c40 c41 c42 c43 c44 c45 c46 c47 c4f N41 N42 N43
  obtain ⟨c50, c51, c52, c53, c54, c55, c56, c57, c5f⟩ := id HB4.out.2.1
  go_wp2_with fail
  refine (clone_i64 _ c.out V4 (by have := HL.out.2.2.2.2.2.2.2.2.2; omega) (HL.out.2.2.2.2.1.below HB4.out.1)).mono ?_
  rintro e w5 ⟨u5, rfl, o5, hb5⟩
  obtain ⟨p5, q5, rfl⟩ := own_slice o5
  have s5 := hb5.size
  have CB5 := HB4.out.2.1.below hb5
  have RB5 := HB4.out.2.2.1.below hb5
  have T5 := (Tcs.refl (fun k => k = w.heap.size) w5).setCell (p := ⟨w.heap.size, 5, none⟩) rfl (.slice p5 c.out.length q5)
  have n5 : w5.ownsRow V4.heap.size 2 1 (.slice p5 c.out.length q5) c.out.length (c.out.map (Value.int .i64)) := o5
  have l5 : ∀ g ∈ obk (.slice p5 c.out.length q5), g < w5.heap.size := fun g hg => ((own_obk o5).2 g hg).2
  clear c50 c51 c52 c53 c54 c55 c56 c57 c5f
  obtain ⟨c50, c51, c52, c53, c54, c55, c56, c57, c5f⟩ := id CB5
  go_upto_region 6 with fail
  obtain ⟨V5, hV5⟩ : ∃ V5, V5 = w5.setCell ⟨w.heap.size, 5, none⟩ (.slice p5 c.out.length q5) := ⟨_, rfl⟩
  rw [← hV5] at T5 ⊢
  have C5 : Bx V5 w.heap.size (.slice p1 c.regs.length q1) (.int .u32 c.pc) (.slice p2 c.data.length q2) (.slice p3 c.stack.length q3) (.slice p4 c.inn.length q4) (.slice p5 c.out.length q5) (.int .u32 c.low) (.int .i64 c.st) := by rw [hV5]; exact CB5.s5 _
  have R5 := RB5.keep (T5.block _ RB5.lt (by omega))
  have zv5 : V5.heap.size = w5.heap.size := by rw [hV5]; simp
  have N5 := own_tcs n5 T5 (fun g hg e => by have := ((own_obk n5).2 g hg).1; have := HB4.out.1.size; omega)
  have N51 := own_tcs (own_below M4_1.out hb5) T5 (fun g hg e => by have := ((own_obk M4_1.out).2 g hg).1; omega)
  have N52 := own_tcs (own_below M4_2.out hb5) T5 (fun g hg e => by have := ((own_obk M4_2.out).2 g hg).1; omega)
  have N53 := own_tcs (own_below M4_3.out hb5) T5 (fun g hg e => by have := ((own_obk M4_3.out).2 g hg).1; omega)
  have N54 := own_tcs (own_below M4_4.out hb5) T5 (fun g hg e => by have := ((own_obk M4_4.out).2 g hg).1; omega)
  have BB5 : Below w.heap.size w V5 := T5.below (HB4.out.1.trans (hb5.mono HB4.out.1.size)) (by have := HB4.out.1.size; omega) (by rintro k rfl; omega)
  have M5_1 : Hid _ := N51
  have M5_2 : Hid _ := N52
  have M5_3 : Hid _ := N53
  have M5_4 : Hid _ := N54
  have M5_5 : Hid _ := N5
  have HB5 : Hid _ := And.intro BB5 (And.intro C5 (And.intro R5 trivial))
  clear hV5 C5 R5 N5 BB5 CB5 RB5 T5 n5 o5 hb5 c50 c51 c52 c53 c54 c55 c56 c57 c5f N51 N52 N53 N54
  obtain ⟨c60, c61, c62, c63, c64, c65, c66, c67, c6f⟩ := id HB5.out.2.1
  obtain ⟨z0', z1, z2, z3, z4, z5, z6, z7, zf⟩ := id HB5.out.2.2.1
  go_wp2
  refine bodyPost_ret (v := .agg #[.slice p1 c.regs.length q1, .int .u32 c.pc, .slice p2 c.data.length q2, .slice p3 c.stack.length q3, .slice p4 c.inn.length q4, .slice p5 c.out.length q5, .int .u32 c.low, .int .i64 c.st]) (by simp [results, Try.results38, go_sem, z0', z1, z2, z3, z4, z5, z6, z7]) rfl ?_
  have TR := (Tcs.refl (fun k => k = w.heap.size + 1) V5).set8 _ rfl (.slice p1 c.regs.length q1) (.int .u32 c.pc) (.slice p2 c.data.length q2) (.slice p3 c.stack.length q3) (.slice p4 c.inn.length q4) (.slice p5 c.out.length q5) (.int .u32 c.low) (.int .i64 c.st)
  have hx : ∀ {b : Nat} {v : Value} {n : Nat} {ty : Nat} {xs : List Value}, V5.ownsRow b ty 1 v n xs → w.heap.size + 2 ≤ b → ∀ g ∈ obk v, ¬ (g = w.heap.size + 1) := fun ho hb g hg e => by have := ((own_obk ho).2 g hg).1; omega
  refine ⟨_, rfl, copy_close (own_tcs M5_1.out TR (hx M5_1.out (by omega))) (own_tcs M5_2.out TR (hx M5_2.out (by omega))) (own_tcs M5_3.out TR (hx M5_3.out (by omega))) (own_tcs M5_4.out TR (hx M5_4.out (by omega))) (own_tcs M5_5.out TR (hx M5_5.out (by omega))) (fun g hg => by have := l1 g hg; omega) (fun g hg => by have := l2 g hg; omega) (fun g hg => by have := l3 g hg; omega) (fun g hg => by have := l4 g hg; omega) (by omega), TR.below HB5.out.1 HB5.out.1.size (by rintro k rfl; omega)⟩

end Go.Proofs.Ytabjcodpagjbjaa

namespace Go.Proofs.Ytabjcodpagjbjaa
open Go.RowKit
set_option linter.unusedVariables false
set_option linter.unusedSectionVars false
set_option linter.unusedSimpArgs false
variable [Inhabited Pick]

set_option maxRecDepth 8000 in
set_option maxHeartbeats 1000000 in
theorem wi_yes (a : Option Addr) (len cap n : Nat) (d bd pc : Int) (w : World) (hl : (len : Int) ≤ 20000) (hn : (n : Int) < (len : Int)) (hp : pc = 4096 + 4 * (n : Int)) :
    Calls Try.prog 39 #[.agg #[.slice a len cap, .int .i64 d, .int .i64 bd], .int .u32 pc] w fun e w' => e = .returned (.tuple #[.int .i64 n, .bool true]) ∧ Below w.heap.size w w' := by
  have q1 : (pc - 4096) % 4294967296 = 4 * (n : Int) := by omega
  have q2 : (4 * (n : Int)) / 4 = (n : Int) := by omega
  have q3 : (4 * (n : Int)) % 4 = 0 := by omega
  have q4 : wrap64 (n : Int) = (n : Int) := by unfold wrap64; omega
  have hn0 : (0 : Int) ≤ (n : Int) := by omega
  clear hp
  go_enter Try.func39, Try.ntmps39
  go_wp2_with fail
  go_quiet (fail)
  go_wp2
  go_ret2
  exact ⟨rfl, below_drewN ((Below.refl _ _).alloc (Nat.le_refl _) _) _⟩
set_option maxRecDepth 8000 in
set_option maxHeartbeats 1000000 in
theorem wi_no (a : Option Addr) (len cap : Nat) (d bd pc : Int) (w : World) (hl : (len : Int) ≤ 20000) (hpc : 0 ≤ pc ∧ pc ≤ 4294967295) (hp : ¬ (4096 ≤ pc ∧ (pc - 4096) % 4 = 0 ∧ (pc - 4096) / 4 < (len : Int))) :
    Calls Try.prog 39 #[.agg #[.slice a len cap, .int .i64 d, .int .i64 bd], .int .u32 pc] w fun e w' => ∃ i, e = .returned (.tuple #[.int .i64 i, .bool false]) ∧ Below w.heap.size w w' := by
  generalize ho : (pc - 4096) % 4294967296 = o at *
  have ho2 : 0 ≤ o ∧ o ≤ 4294967295 := by omega
  have ho3 : ¬ o % 4 = 0 ∨ (len : Int) ≤ o / 4 := by omega
  have q4 : wrap64 (o / 4) = o / 4 := by unfold wrap64; omega
  clear hp hpc
  go_enter Try.func39, Try.ntmps39
  go_wp2_with fail
  by_cases h1 : o % 4 = 0
  · have h2 : ¬ o / 4 < (len : Int) := by omega
    clear ho3
    go_quiet (fail)
    go_wp2
    go_ret2
    first
      | exact ⟨_, rfl, below_drewN ((Below.refl _ _).alloc (Nat.le_refl _) _) _⟩
      | exact ⟨⟨_, rfl⟩, below_drewN ((Below.refl _ _).alloc (Nat.le_refl _) _) _⟩
  · have h3 : (o % 4 == 0) = false := by simpa using h1
    clear ho3
    go_quiet (fail)
    go_wp2
    go_ret2
    first
      | exact ⟨_, rfl, below_drewN ((Below.refl _ _).alloc (Nat.le_refl _) _) _⟩
      | exact ⟨⟨_, rfl⟩, below_drewN ((Below.refl _ _).alloc (Nat.le_refl _) _) _⟩

end Go.Proofs.Ytabjcodpagjbjaa

namespace Go.Proofs.Ytabjcodpagjbjaa
open Go.RowKit
set_option linter.unusedVariables false
set_option linter.unusedSectionVars false
set_option linter.unusedSimpArgs false
variable [Inhabited Pick]

set_option maxRecDepth 8000 in
set_option maxHeartbeats 1000000 in
theorem sc_no1 (a : Option Addr) (len cap : Nat) (d bd : Int) (v : Value) (L : List Nat) (c : Mc) (w : World) (hl : len ≤ 1048576) (h : CpuV w v L c) (hs : c.regs.length ≤ 2097152 ∧ c.data.length ≤ 2097152 ∧ c.stack.length ≤ 2097152 ∧ c.inn.length ≤ 2097152 ∧ c.out.length ≤ 2097152) (hv : vimg len d bd = false) :
    Calls Try.prog 11 #[.agg #[.slice a len cap, .int .i64 d, .int .i64 bd], v] w fun e w' => ∃ u, e = .returned u ∧ CpuAt w' w.heap.size u zeroM ∧ Below w.heap.size w w' := by
  have hv0 := h
  obtain ⟨r, dv, sv, iv, ov, rfl, hr, hd, hs', hi, ho, hk, hLL, hnd⟩ := h
  have ho' := (Lis.of_own ho).1
  obtain ⟨x1, y1, rfl⟩ := hr.len0
  obtain ⟨x2, y2, rfl⟩ := hd.len0
  obtain ⟨x3, y3, rfl⟩ := hs'.len0
  obtain ⟨x4, y4, rfl⟩ := hi.len0
  obtain ⟨x5, y5, rfl⟩ := ho'.len0
  have B0 : Below w.heap.size w (((w.alloc (.cells #[.slice a len cap, .int .i64 d, .int .i64 bd] 25)).alloc (.cells #[.slice x1 c.regs.length y1, .int .u32 c.pc, .slice x2 c.data.length y2, .slice x3 c.stack.length y3, .slice x4 c.inn.length y4, .slice x5 c.out.length y5, .int .u32 c.low, .int .i64 c.st] 32)).alloc (.cells #[.slice none 0 0, .int .u32 0, .slice none 0 0, .slice none 0 0, .slice none 0 0, .slice none 0 0, .int .u32 0, .int .i64 0] 32)) := (((Below.refl _ _).alloc (Nat.le_refl _) _).alloc (by simp) _).alloc (by simp; omega) _
  have M0 : (((w.alloc (.cells #[.slice a len cap, .int .i64 d, .int .i64 bd] 25)).alloc (.cells #[.slice x1 c.regs.length y1, .int .u32 c.pc, .slice x2 c.data.length y2, .slice x3 c.stack.length y3, .slice x4 c.inn.length y4, .slice x5 c.out.length y5, .int .u32 c.low, .int .i64 c.st] 32)).alloc (.cells #[.slice none 0 0, .int .u32 0, .slice none 0 0, .slice none 0 0, .slice none 0 0, .slice none 0 0, .int .u32 0, .int .i64 0] 32)).heap[w.heap.size]? = some (.cells #[.slice a len cap, .int .i64 d, .int .i64 bd] 25) := by rw [Below.heap_alloc _ _ _ (by simp; omega), Below.heap_alloc _ _ _ (by simp)]; exact heap_alloc_new w _
  have C0 : Bx (((w.alloc (.cells #[.slice a len cap, .int .i64 d, .int .i64 bd] 25)).alloc (.cells #[.slice x1 c.regs.length y1, .int .u32 c.pc, .slice x2 c.data.length y2, .slice x3 c.stack.length y3, .slice x4 c.inn.length y4, .slice x5 c.out.length y5, .int .u32 c.low, .int .i64 c.st] 32)).alloc (.cells #[.slice none 0 0, .int .u32 0, .slice none 0 0, .slice none 0 0, .slice none 0 0, .slice none 0 0, .int .u32 0, .int .i64 0] 32)) (w.heap.size + 1) (.slice x1 c.regs.length y1) (.int .u32 c.pc) (.slice x2 c.data.length y2) (.slice x3 c.stack.length y3) (.slice x4 c.inn.length y4) (.slice x5 c.out.length y5) (.int .u32 c.low) (.int .i64 c.st) := Bx.of_heap (by rw [Below.heap_alloc _ _ _ (by simp)]; have := heap_alloc_new (w.alloc (.cells #[.slice a len cap, .int .i64 d, .int .i64 bd] 25)) (.cells #[.slice x1 c.regs.length y1, .int .u32 c.pc, .slice x2 c.data.length y2, .slice x3 c.stack.length y3, .slice x4 c.inn.length y4, .slice x5 c.out.length y5, .int .u32 c.low, .int .i64 c.st] 32); simpa only [World.size_alloc] using this)
  have R0 : Bx (((w.alloc (.cells #[.slice a len cap, .int .i64 d, .int .i64 bd] 25)).alloc (.cells #[.slice x1 c.regs.length y1, .int .u32 c.pc, .slice x2 c.data.length y2, .slice x3 c.stack.length y3, .slice x4 c.inn.length y4, .slice x5 c.out.length y5, .int .u32 c.low, .int .i64 c.st] 32)).alloc (.cells #[.slice none 0 0, .int .u32 0, .slice none 0 0, .slice none 0 0, .slice none 0 0, .slice none 0 0, .int .u32 0, .int .i64 0] 32)) (w.heap.size + 1 + 1) (.slice none 0 0) (.int .u32 0) (.slice none 0 0) (.slice none 0 0) (.slice none 0 0) (.slice none 0 0) (.int .u32 0) (.int .i64 0) := Bx.of_heap (by have := heap_alloc_new ((w.alloc (.cells #[.slice a len cap, .int .i64 d, .int .i64 bd] 25)).alloc (.cells #[.slice x1 c.regs.length y1, .int .u32 c.pc, .slice x2 c.data.length y2, .slice x3 c.stack.length y3, .slice x4 c.inn.length y4, .slice x5 c.out.length y5, .int .u32 c.low, .int .i64 c.st] 32)) (.cells #[.slice none 0 0, .int .u32 0, .slice none 0 0, .slice none 0 0, .slice none 0 0, .slice none 0 0, .int .u32 0, .int .i64 0] 32); simpa only [World.size_alloc] using this)
  obtain ⟨V0, hV0⟩ : ∃ V0, V0 = (((w.alloc (.cells #[.slice a len cap, .int .i64 d, .int .i64 bd] 25)).alloc (.cells #[.slice x1 c.regs.length y1, .int .u32 c.pc, .slice x2 c.data.length y2, .slice x3 c.stack.length y3, .slice x4 c.inn.length y4, .slice x5 c.out.length y5, .int .u32 c.low, .int .i64 c.st] 32)).alloc (.cells #[.slice none 0 0, .int .u32 0, .slice none 0 0, .slice none 0 0, .slice none 0 0, .slice none 0 0, .int .u32 0, .int .i64 0] 32)) := ⟨_, rfl⟩
  have z0 : V0.heap.size = w.heap.size + 3 := by rw [hV0]; simp
  rw [← hV0] at B0 M0 C0 R0
  have HV : Hid _ := And.intro hv0 hs
  have HB0 : Hid _ := And.intro B0 (And.intro M0 (And.intro C0 R0))
  clear hr hd hs' hi ho ho' hk hLL hnd hs B0 R0 hv0
  skip
  obtain ⟨c00, c01, c02, c03, c04, c05, c06, c07, c0f⟩ := id C0
  have m00 := cell_of M0 (j := 0) rfl
  have m01 := cell_of M0 (j := 1) rfl
  have m02 := cell_of M0 (j := 2) rfl
  clear M0 C0
  go_enter Try.func11, Try.ntmps11
  go_upto_region 1 with fail
  rw [← hV0]
  clear hV0
  go_wp2_with fail
  refine (vi_any a len cap d bd V0 hl).mono ?_
  rintro e w1 ⟨rfl, hb1⟩
  rw [hv]
  have s1 := hb1.size
  have B1 := HB0.out.1.trans (hb1.mono HB0.out.1.size)
  have M1 := (hb1.block w.heap.size (by omega)).trans HB0.out.2.1
  have C1 := HB0.out.2.2.1.below hb1
  have R1 := HB0.out.2.2.2.below hb1
  have HB1 : Hid _ := And.intro B1 (And.intro M1 (And.intro C1 R1))
  clear c00 c01 c02 c03 c04 c05 c06 c07 c0f m00 m01 m02 B1 R1 hb1
  obtain ⟨c00, c01, c02, c03, c04, c05, c06, c07, c0f⟩ := id C1
  have m00 := cell_of M1 (j := 0) rfl
  have m01 := cell_of M1 (j := 1) rfl
  have m02 := cell_of M1 (j := 2) rfl
  clear M1 C1
  obtain ⟨z00, z01, z02, z03, z04, z05, z06, z07, z0f⟩ := id HB1.out.2.2.2
  go_wp2
  refine bodyPost_ret (v := .agg #[.slice none 0 0, .int .u32 0, .slice none 0 0, .slice none 0 0, .slice none 0 0, .slice none 0 0, .int .u32 0, .int .i64 0]) (by simp [results, Try.results11, go_sem, z00, z01, z02, z03, z04, z05, z06, z07]) rfl ?_
  exact ⟨_, rfl, cpu_zero _ _, ((Tcs.refl (fun k => k = w.heap.size + 1 + 1) _).set8 _ rfl (.slice none 0 0) (.int .u32 0) (.slice none 0 0) (.slice none 0 0) (.slice none 0 0) (.slice none 0 0) (.int .u32 0) (.int .i64 0)).below HB1.out.1 HB1.out.1.size (by rintro k rfl; omega)⟩


theorem Tcs.six0x (W : World) (g : Nat) (u0 u1 u2 u3 u4 u5 : Value) : Tcs (fun k => k = g) W ((((((W.setCell ⟨g, 0, none⟩ u0).setCell ⟨g, 1, none⟩ u1).setCell ⟨g, 2, none⟩ u2).setCell ⟨g, 3, none⟩ u3).setCell ⟨g, 4, none⟩ u4).setCell ⟨g, 5, none⟩ u5) :=
  ((((((Tcs.refl (fun k => k = g) W).setCell (p := ⟨g, 0, none⟩) rfl u0).setCell (p := ⟨g, 1, none⟩) rfl u1).setCell (p := ⟨g, 2, none⟩) rfl u2).setCell (p := ⟨g, 3, none⟩) rfl u3).setCell (p := ⟨g, 4, none⟩) rfl u4).setCell (p := ⟨g, 5, none⟩) rfl u5


set_option maxRecDepth 8000 in
set_option maxHeartbeats 1000000 in
theorem sc_no2 (a : Option Addr) (len cap : Nat) (d bd : Int) (v : Value) (L : List Nat) (c : Mc) (w : World) (hl : len ≤ 1048576) (h : CpuV w v L c) (hs : c.regs.length ≤ 2097152 ∧ c.data.length ≤ 2097152 ∧ c.stack.length ≤ 2097152 ∧ c.inn.length ≤ 2097152 ∧ c.out.length ≤ 2097152) (hv : vimg len d bd = true) (hg : goodB d bd c = false) :
    Calls Try.prog 11 #[.agg #[.slice a len cap, .int .i64 d, .int .i64 bd], v] w fun e w' => ∃ u, e = .returned u ∧ CpuAt w' w.heap.size u zeroM ∧ Below w.heap.size w w' := by
  have hv0 := h
  obtain ⟨r, dv, sv, iv, ov, rfl, hr, hd, hs', hi, ho, hk, hLL, hnd⟩ := h
  have ho' := (Lis.of_own ho).1
  obtain ⟨x1, y1, rfl⟩ := hr.len0
  obtain ⟨x2, y2, rfl⟩ := hd.len0
  obtain ⟨x3, y3, rfl⟩ := hs'.len0
  obtain ⟨x4, y4, rfl⟩ := hi.len0
  obtain ⟨x5, y5, rfl⟩ := ho'.len0
  have B0 : Below w.heap.size w (((w.alloc (.cells #[.slice a len cap, .int .i64 d, .int .i64 bd] 25)).alloc (.cells #[.slice x1 c.regs.length y1, .int .u32 c.pc, .slice x2 c.data.length y2, .slice x3 c.stack.length y3, .slice x4 c.inn.length y4, .slice x5 c.out.length y5, .int .u32 c.low, .int .i64 c.st] 32)).alloc (.cells #[.slice none 0 0, .int .u32 0, .slice none 0 0, .slice none 0 0, .slice none 0 0, .slice none 0 0, .int .u32 0, .int .i64 0] 32)) := (((Below.refl _ _).alloc (Nat.le_refl _) _).alloc (by simp) _).alloc (by simp; omega) _
  have M0 : (((w.alloc (.cells #[.slice a len cap, .int .i64 d, .int .i64 bd] 25)).alloc (.cells #[.slice x1 c.regs.length y1, .int .u32 c.pc, .slice x2 c.data.length y2, .slice x3 c.stack.length y3, .slice x4 c.inn.length y4, .slice x5 c.out.length y5, .int .u32 c.low, .int .i64 c.st] 32)).alloc (.cells #[.slice none 0 0, .int .u32 0, .slice none 0 0, .slice none 0 0, .slice none 0 0, .slice none 0 0, .int .u32 0, .int .i64 0] 32)).heap[w.heap.size]? = some (.cells #[.slice a len cap, .int .i64 d, .int .i64 bd] 25) := by rw [Below.heap_alloc _ _ _ (by simp; omega), Below.heap_alloc _ _ _ (by simp)]; exact heap_alloc_new w _
  have C0 : Bx (((w.alloc (.cells #[.slice a len cap, .int .i64 d, .int .i64 bd] 25)).alloc (.cells #[.slice x1 c.regs.length y1, .int .u32 c.pc, .slice x2 c.data.length y2, .slice x3 c.stack.length y3, .slice x4 c.inn.length y4, .slice x5 c.out.length y5, .int .u32 c.low, .int .i64 c.st] 32)).alloc (.cells #[.slice none 0 0, .int .u32 0, .slice none 0 0, .slice none 0 0, .slice none 0 0, .slice none 0 0, .int .u32 0, .int .i64 0] 32)) (w.heap.size + 1) (.slice x1 c.regs.length y1) (.int .u32 c.pc) (.slice x2 c.data.length y2) (.slice x3 c.stack.length y3) (.slice x4 c.inn.length y4) (.slice x5 c.out.length y5) (.int .u32 c.low) (.int .i64 c.st) := Bx.of_heap (by rw [Below.heap_alloc _ _ _ (by simp)]; have := heap_alloc_new (w.alloc (.cells #[.slice a len cap, .int .i64 d, .int .i64 bd] 25)) (.cells #[.slice x1 c.regs.length y1, .int .u32 c.pc, .slice x2 c.data.length y2, .slice x3 c.stack.length y3, .slice x4 c.inn.length y4, .slice x5 c.out.length y5, .int .u32 c.low, .int .i64 c.st] 32); simpa only [World.size_alloc] using this)
  have R0 : Bx (((w.alloc (.cells #[.slice a len cap, .int .i64 d, .int .i64 bd] 25)).alloc (.cells #[.slice x1 c.regs.length y1, .int .u32 c.pc, .slice x2 c.data.length y2, .slice x3 c.stack.length y3, .slice x4 c.inn.length y4, .slice x5 c.out.length y5, .int .u32 c.low, .int .i64 c.st] 32)).alloc (.cells #[.slice none 0 0, .int .u32 0, .slice none 0 0, .slice none 0 0, .slice none 0 0, .slice none 0 0, .int .u32 0, .int .i64 0] 32)) (w.heap.size + 1 + 1) (.slice none 0 0) (.int .u32 0) (.slice none 0 0) (.slice none 0 0) (.slice none 0 0) (.slice none 0 0) (.int .u32 0) (.int .i64 0) := Bx.of_heap (by have := heap_alloc_new ((w.alloc (.cells #[.slice a len cap, .int .i64 d, .int .i64 bd] 25)).alloc (.cells #[.slice x1 c.regs.length y1, .int .u32 c.pc, .slice x2 c.data.length y2, .slice x3 c.stack.length y3, .slice x4 c.inn.length y4, .slice x5 c.out.length y5, .int .u32 c.low, .int .i64 c.st] 32)) (.cells #[.slice none 0 0, .int .u32 0, .slice none 0 0, .slice none 0 0, .slice none 0 0, .slice none 0 0, .int .u32 0, .int .i64 0] 32); simpa only [World.size_alloc] using this)
  obtain ⟨V0, hV0⟩ : ∃ V0, V0 = (((w.alloc (.cells #[.slice a len cap, .int .i64 d, .int .i64 bd] 25)).alloc (.cells #[.slice x1 c.regs.length y1, .int .u32 c.pc, .slice x2 c.data.length y2, .slice x3 c.stack.length y3, .slice x4 c.inn.length y4, .slice x5 c.out.length y5, .int .u32 c.low, .int .i64 c.st] 32)).alloc (.cells #[.slice none 0 0, .int .u32 0, .slice none 0 0, .slice none 0 0, .slice none 0 0, .slice none 0 0, .int .u32 0, .int .i64 0] 32)) := ⟨_, rfl⟩
  have z0 : V0.heap.size = w.heap.size + 3 := by rw [hV0]; simp
  rw [← hV0] at B0 M0 C0 R0
  have HV : Hid _ := And.intro hv0 hs
  have HB0 : Hid _ := And.intro B0 (And.intro M0 (And.intro C0 R0))
  clear hr hd hs' hi ho ho' hk hLL hnd hs B0 R0 hv0
  skip
  obtain ⟨c00, c01, c02, c03, c04, c05, c06, c07, c0f⟩ := id C0
  have m00 := cell_of M0 (j := 0) rfl
  have m01 := cell_of M0 (j := 1) rfl
  have m02 := cell_of M0 (j := 2) rfl
  clear M0 C0
  go_enter Try.func11, Try.ntmps11
  go_upto_region 1 with fail
  rw [← hV0]
  clear hV0
  go_wp2_with fail
  refine (vi_any a len cap d bd V0 hl).mono ?_
  rintro e w1 ⟨rfl, hb1⟩
  rw [hv]
  have s1 := hb1.size
  have B1 := HB0.out.1.trans (hb1.mono HB0.out.1.size)
  have M1 := (hb1.block w.heap.size (by omega)).trans HB0.out.2.1
  have C1 := HB0.out.2.2.1.below hb1
  have R1 := HB0.out.2.2.2.below hb1
  have HB1 : Hid _ := And.intro B1 (And.intro M1 (And.intro C1 R1))
  clear c00 c01 c02 c03 c04 c05 c06 c07 c0f m00 m01 m02 B1 R1 hb1
  obtain ⟨c00, c01, c02, c03, c04, c05, c06, c07, c0f⟩ := id C1
  have m00 := cell_of M1 (j := 0) rfl
  have m01 := cell_of M1 (j := 1) rfl
  have m02 := cell_of M1 (j := 2) rfl
  clear M1 C1
  go_wp2_with fail
  refine (vc_any a len cap d bd _ L c w1 (HV.out.1.below HB1.out.1) HV.out.2).mono ?_
  rintro e w2 ⟨rfl, hb2⟩
  rw [hg]
  have s2 := hb2.size
  have B2 := HB1.out.1.trans (hb2.mono HB1.out.1.size)
  have M2 := (hb2.block w.heap.size (by omega)).trans HB1.out.2.1
  have C2 := HB1.out.2.2.1.below hb2
  have R2 := HB1.out.2.2.2.below hb2
  have HB2 : Hid _ := And.intro B2 (And.intro M2 (And.intro C2 R2))
  clear c00 c01 c02 c03 c04 c05 c06 c07 c0f m00 m01 m02 B2 R2 hb2
  obtain ⟨c00, c01, c02, c03, c04, c05, c06, c07, c0f⟩ := id C2
  have m00 := cell_of M2 (j := 0) rfl
  have m01 := cell_of M2 (j := 1) rfl
  have m02 := cell_of M2 (j := 2) rfl
  clear M2 C2
  obtain ⟨z00, z01, z02, z03, z04, z05, z06, z07, z0f⟩ := id HB2.out.2.2.2
  go_wp2
  refine bodyPost_ret (v := .agg #[.slice none 0 0, .int .u32 0, .slice none 0 0, .slice none 0 0, .slice none 0 0, .slice none 0 0, .int .u32 0, .int .i64 0]) (by simp [results, Try.results11, go_sem, z00, z01, z02, z03, z04, z05, z06, z07]) rfl ?_
  exact ⟨_, rfl, cpu_zero _ _, ((Tcs.refl (fun k => k = w.heap.size + 1 + 1) _).set8 _ rfl (.slice none 0 0) (.int .u32 0) (.slice none 0 0) (.slice none 0 0) (.slice none 0 0) (.slice none 0 0) (.int .u32 0) (.int .i64 0)).below HB2.out.1 HB2.out.1.size (by rintro k rfl; omega)⟩


set_option maxRecDepth 8000 in
set_option maxHeartbeats 1000000 in
theorem sc_stay (a : Option Addr) (len cap : Nat) (d bd : Int) (v : Value) (L : List Nat) (c : Mc) (w : World) (hl : len ≤ 1048576) (h : CpuV w v L c) (hs : c.regs.length ≤ 2097152 ∧ c.data.length ≤ 2097152 ∧ c.stack.length ≤ 2097152 ∧ c.inn.length ≤ 2097152 ∧ c.out.length ≤ 2097152) (hv : vimg len d bd = true) (hg : goodB d bd c = true) (hst : ¬ c.st = 0) :
    Calls Try.prog 11 #[.agg #[.slice a len cap, .int .i64 d, .int .i64 bd], v] w fun e w' => ∃ u, e = .returned u ∧ CpuAt w' w.heap.size u c ∧ Below w.heap.size w w' := by
  have hv0 := h
  obtain ⟨r, dv, sv, iv, ov, rfl, hr, hd, hs', hi, ho, hk, hLL, hnd⟩ := h
  have ho' := (Lis.of_own ho).1
  obtain ⟨x1, y1, rfl⟩ := hr.len0
  obtain ⟨x2, y2, rfl⟩ := hd.len0
  obtain ⟨x3, y3, rfl⟩ := hs'.len0
  obtain ⟨x4, y4, rfl⟩ := hi.len0
  obtain ⟨x5, y5, rfl⟩ := ho'.len0
  have B0 : Below w.heap.size w (((w.alloc (.cells #[.slice a len cap, .int .i64 d, .int .i64 bd] 25)).alloc (.cells #[.slice x1 c.regs.length y1, .int .u32 c.pc, .slice x2 c.data.length y2, .slice x3 c.stack.length y3, .slice x4 c.inn.length y4, .slice x5 c.out.length y5, .int .u32 c.low, .int .i64 c.st] 32)).alloc (.cells #[.slice none 0 0, .int .u32 0, .slice none 0 0, .slice none 0 0, .slice none 0 0, .slice none 0 0, .int .u32 0, .int .i64 0] 32)) := (((Below.refl _ _).alloc (Nat.le_refl _) _).alloc (by simp) _).alloc (by simp; omega) _
  have M0 : (((w.alloc (.cells #[.slice a len cap, .int .i64 d, .int .i64 bd] 25)).alloc (.cells #[.slice x1 c.regs.length y1, .int .u32 c.pc, .slice x2 c.data.length y2, .slice x3 c.stack.length y3, .slice x4 c.inn.length y4, .slice x5 c.out.length y5, .int .u32 c.low, .int .i64 c.st] 32)).alloc (.cells #[.slice none 0 0, .int .u32 0, .slice none 0 0, .slice none 0 0, .slice none 0 0, .slice none 0 0, .int .u32 0, .int .i64 0] 32)).heap[w.heap.size]? = some (.cells #[.slice a len cap, .int .i64 d, .int .i64 bd] 25) := by rw [Below.heap_alloc _ _ _ (by simp; omega), Below.heap_alloc _ _ _ (by simp)]; exact heap_alloc_new w _
  have C0 : Bx (((w.alloc (.cells #[.slice a len cap, .int .i64 d, .int .i64 bd] 25)).alloc (.cells #[.slice x1 c.regs.length y1, .int .u32 c.pc, .slice x2 c.data.length y2, .slice x3 c.stack.length y3, .slice x4 c.inn.length y4, .slice x5 c.out.length y5, .int .u32 c.low, .int .i64 c.st] 32)).alloc (.cells #[.slice none 0 0, .int .u32 0, .slice none 0 0, .slice none 0 0, .slice none 0 0, .slice none 0 0, .int .u32 0, .int .i64 0] 32)) (w.heap.size + 1) (.slice x1 c.regs.length y1) (.int .u32 c.pc) (.slice x2 c.data.length y2) (.slice x3 c.stack.length y3) (.slice x4 c.inn.length y4) (.slice x5 c.out.length y5) (.int .u32 c.low) (.int .i64 c.st) := Bx.of_heap (by rw [Below.heap_alloc _ _ _ (by simp)]; have := heap_alloc_new (w.alloc (.cells #[.slice a len cap, .int .i64 d, .int .i64 bd] 25)) (.cells #[.slice x1 c.regs.length y1, .int .u32 c.pc, .slice x2 c.data.length y2, .slice x3 c.stack.length y3, .slice x4 c.inn.length y4, .slice x5 c.out.length y5, .int .u32 c.low, .int .i64 c.st] 32); simpa only [World.size_alloc] using this)
  have R0 : Bx (((w.alloc (.cells #[.slice a len cap, .int .i64 d, .int .i64 bd] 25)).alloc (.cells #[.slice x1 c.regs.length y1, .int .u32 c.pc, .slice x2 c.data.length y2, .slice x3 c.stack.length y3, .slice x4 c.inn.length y4, .slice x5 c.out.length y5, .int .u32 c.low, .int .i64 c.st] 32)).alloc (.cells #[.slice none 0 0, .int .u32 0, .slice none 0 0, .slice none 0 0, .slice none 0 0, .slice none 0 0, .int .u32 0, .int .i64 0] 32)) (w.heap.size + 1 + 1) (.slice none 0 0) (.int .u32 0) (.slice none 0 0) (.slice none 0 0) (.slice none 0 0) (.slice none 0 0) (.int .u32 0) (.int .i64 0) := Bx.of_heap (by have := heap_alloc_new ((w.alloc (.cells #[.slice a len cap, .int .i64 d, .int .i64 bd] 25)).alloc (.cells #[.slice x1 c.regs.length y1, .int .u32 c.pc, .slice x2 c.data.length y2, .slice x3 c.stack.length y3, .slice x4 c.inn.length y4, .slice x5 c.out.length y5, .int .u32 c.low, .int .i64 c.st] 32)) (.cells #[.slice none 0 0, .int .u32 0, .slice none 0 0, .slice none 0 0, .slice none 0 0, .slice none 0 0, .int .u32 0, .int .i64 0] 32); simpa only [World.size_alloc] using this)
  obtain ⟨V0, hV0⟩ : ∃ V0, V0 = (((w.alloc (.cells #[.slice a len cap, .int .i64 d, .int .i64 bd] 25)).alloc (.cells #[.slice x1 c.regs.length y1, .int .u32 c.pc, .slice x2 c.data.length y2, .slice x3 c.stack.length y3, .slice x4 c.inn.length y4, .slice x5 c.out.length y5, .int .u32 c.low, .int .i64 c.st] 32)).alloc (.cells #[.slice none 0 0, .int .u32 0, .slice none 0 0, .slice none 0 0, .slice none 0 0, .slice none 0 0, .int .u32 0, .int .i64 0] 32)) := ⟨_, rfl⟩
  have z0 : V0.heap.size = w.heap.size + 3 := by rw [hV0]; simp
  rw [← hV0] at B0 M0 C0 R0
  have HV : Hid _ := And.intro hv0 hs
  have HB0 : Hid _ := And.intro B0 (And.intro M0 (And.intro C0 R0))
  clear hr hd hs' hi ho ho' hk hLL hnd hs B0 R0 hv0
  have HST : Hid _ := hst
  clear hst
  obtain ⟨c00, c01, c02, c03, c04, c05, c06, c07, c0f⟩ := id C0
  have m00 := cell_of M0 (j := 0) rfl
  have m01 := cell_of M0 (j := 1) rfl
  have m02 := cell_of M0 (j := 2) rfl
  clear M0 C0
  go_enter Try.func11, Try.ntmps11
  go_upto_region 1 with fail
  rw [← hV0]
  clear hV0
  go_wp2_with fail
  refine (vi_any a len cap d bd V0 hl).mono ?_
  rintro e w1 ⟨rfl, hb1⟩
  rw [hv]
  have s1 := hb1.size
  have B1 := HB0.out.1.trans (hb1.mono HB0.out.1.size)
  have M1 := (hb1.block w.heap.size (by omega)).trans HB0.out.2.1
  have C1 := HB0.out.2.2.1.below hb1
  have R1 := HB0.out.2.2.2.below hb1
  have HB1 : Hid _ := And.intro B1 (And.intro M1 (And.intro C1 R1))
  clear c00 c01 c02 c03 c04 c05 c06 c07 c0f m00 m01 m02 B1 R1 hb1
  obtain ⟨c00, c01, c02, c03, c04, c05, c06, c07, c0f⟩ := id C1
  have m00 := cell_of M1 (j := 0) rfl
  have m01 := cell_of M1 (j := 1) rfl
  have m02 := cell_of M1 (j := 2) rfl
  clear M1 C1
  go_wp2_with fail
  refine (vc_any a len cap d bd _ L c w1 (HV.out.1.below HB1.out.1) HV.out.2).mono ?_
  rintro e w2 ⟨rfl, hb2⟩
  rw [hg]
  have s2 := hb2.size
  have B2 := HB1.out.1.trans (hb2.mono HB1.out.1.size)
  have M2 := (hb2.block w.heap.size (by omega)).trans HB1.out.2.1
  have C2 := HB1.out.2.2.1.below hb2
  have R2 := HB1.out.2.2.2.below hb2
  have HB2 : Hid _ := And.intro B2 (And.intro M2 (And.intro C2 R2))
  clear c00 c01 c02 c03 c04 c05 c06 c07 c0f m00 m01 m02 B2 R2 hb2
  obtain ⟨c00, c01, c02, c03, c04, c05, c06, c07, c0f⟩ := id C2
  have m00 := cell_of M2 (j := 0) rfl
  have m01 := cell_of M2 (j := 1) rfl
  have m02 := cell_of M2 (j := 2) rfl
  clear M2 C2
  go_wp2_with fail
  refine (cc_any _ L c w2 (HV.out.1.below HB2.out.1) HV.out.2).mono ?_
  rintro e w3 ⟨u3, rfl, ca, hb3⟩
  obtain ⟨L3, cv3, hL3⟩ := ca.toV2
  obtain ⟨k1, k2, k3, k4, k5, p1, q1, p2, q2, p3, q3, p4, q4, p5, q5, rfl⟩ := cv3.shape
  have s3 := hb3.size
  have B3 := HB2.out.1.trans (hb3.mono HB2.out.1.size)
  have M3 := (hb3.block w.heap.size (by omega)).trans HB2.out.2.1
  have R3 := HB2.out.2.2.2.below hb3
  have HB3 : Hid _ := And.intro B3 (And.intro M3 (And.intro R3 (And.intro cv3 (And.intro hL3 cv3.lt))))
  clear c00 c01 c02 c03 c04 c05 c06 c07 c0f m00 m01 m02 B3 M3 R3 hb3 ca cv3 hL3
  go_upto_region 4 with fail
  obtain ⟨V4, hV4⟩ : ∃ V4, V4 = w3.alloc (.cells #[.slice p1 k1 q1, .int .u32 c.pc, .slice p2 k2 q2, .slice p3 k3 q3, .slice p4 k4 q4, .slice p5 k5 q5, .int .u32 c.low, .int .i64 c.st] 32) := ⟨_, rfl⟩
  rw [← hV4]
  have X4 : Bx V4 w3.heap.size (.slice p1 k1 q1) (.int .u32 c.pc) (.slice p2 k2 q2) (.slice p3 k3 q3) (.slice p4 k4 q4) (.slice p5 k5 q5) (.int .u32 c.low) (.int .i64 c.st) := by rw [hV4]; exact Bx.of_heap (heap_alloc_new w3 _)
  have A4 : Below w3.heap.size w3 V4 := by rw [hV4]; exact (Below.refl _ _).alloc (Nat.le_refl _) _
  have zV4 : V4.heap.size = w3.heap.size + 1 := by rw [hV4]; simp
  have R4 := HB3.out.2.2.1.below A4
  have M4 := (A4.block w.heap.size (by omega)).trans HB3.out.2.1
  have cv4 := HB3.out.2.2.2.1.below A4
  have B4 := HB3.out.1.trans (A4.mono (by omega))
  have HB4 : Hid _ := And.intro B4 (And.intro M4 (And.intro R4 (And.intro cv4 X4)))
  obtain ⟨c00, c01, c02, c03, c04, c05, c06, c07, c0f⟩ := id X4
  obtain ⟨z00, z01, z02, z03, z04, z05, z06, z07, z0f⟩ := id R4
  have m00 := cell_of M4 (j := 0) rfl
  have m01 := cell_of M4 (j := 1) rfl
  have m02 := cell_of M4 (j := 2) rfl
  clear hV4 X4 A4 R4 M4 cv4 B4
  have hst' : (c.st == 0) = false := by simpa using HST.out
  go_wp2
  refine bodyPost_ret (v := .agg #[.slice p1 k1 q1, .int .u32 c.pc, .slice p2 k2 q2, .slice p3 k3 q3, .slice p4 k4 q4, .slice p5 k5 q5, .int .u32 c.low, .int .i64 c.st]) (by simp [results, Try.results11, go_sem, z00, z01, z02, z03, z04, z05, z06, z07]) rfl ?_
  have TR := (Tcs.refl (fun k => k = w.heap.size + 1 + 1) V4).set8 _ rfl (.slice p1 k1 q1) (.int .u32 c.pc) (.slice p2 k2 q2) (.slice p3 k3 q3) (.slice p4 k4 q4) (.slice p5 k5 q5) (.int .u32 c.low) (.int .i64 c.st)
  exact ⟨_, rfl, (HB4.out.2.2.2.1.tcs TR (fun g hg e => by have := HB3.out.2.2.2.2.1 g hg; omega)).toAt2 (fun g hg => by have := HB3.out.2.2.2.2.1 g hg; omega), TR.below HB4.out.1 HB4.out.1.size (by rintro k rfl; omega)⟩


set_option maxRecDepth 8000 in
set_option maxHeartbeats 1000000 in
theorem sc_step0 (a : Option Addr) (len cap : Nat) (d bd : Int) (v : Value) (L : List Nat) (c : Mc) (w : World) (hl : len ≤ 1048576) (h : CpuV w v L c) (hs : c.regs.length ≤ 2097152 ∧ c.data.length ≤ 2097152 ∧ c.stack.length ≤ 2097152 ∧ c.inn.length ≤ 2097152 ∧ c.out.length ≤ 2097152) (hv : vimg len d bd = true) (hg : goodB d bd c = true) (hst : c.st = 0) (codes : List Int) (hc : Lis .u32 w (.slice a len cap) codes) (nx : Mc) (hS : StepIs codes bd c nx) (hco : CodesOk codes) (hpc : 0 ≤ c.pc ∧ c.pc ≤ 4294967295) (hw : ¬ (4096 ≤ c.pc ∧ (c.pc - 4096) % 4 = 0 ∧ (c.pc - 4096) / 4 < (len : Int))) :
    Calls Try.prog 11 #[.agg #[.slice a len cap, .int .i64 d, .int .i64 bd], v] w fun e w' => ∃ u, e = .returned u ∧ CpuAt w' w.heap.size u nx ∧ Below w.heap.size w w' := by
  have hv0 := h
  obtain ⟨r, dv, sv, iv, ov, rfl, hr, hd, hs', hi, ho, hk, hLL, hnd⟩ := h
  have ho' := (Lis.of_own ho).1
  obtain ⟨x1, y1, rfl⟩ := hr.len0
  obtain ⟨x2, y2, rfl⟩ := hd.len0
  obtain ⟨x3, y3, rfl⟩ := hs'.len0
  obtain ⟨x4, y4, rfl⟩ := hi.len0
  obtain ⟨x5, y5, rfl⟩ := ho'.len0
  have B0 : Below w.heap.size w (((w.alloc (.cells #[.slice a len cap, .int .i64 d, .int .i64 bd] 25)).alloc (.cells #[.slice x1 c.regs.length y1, .int .u32 c.pc, .slice x2 c.data.length y2, .slice x3 c.stack.length y3, .slice x4 c.inn.length y4, .slice x5 c.out.length y5, .int .u32 c.low, .int .i64 c.st] 32)).alloc (.cells #[.slice none 0 0, .int .u32 0, .slice none 0 0, .slice none 0 0, .slice none 0 0, .slice none 0 0, .int .u32 0, .int .i64 0] 32)) := (((Below.refl _ _).alloc (Nat.le_refl _) _).alloc (by simp) _).alloc (by simp; omega) _
  have M0 : (((w.alloc (.cells #[.slice a len cap, .int .i64 d, .int .i64 bd] 25)).alloc (.cells #[.slice x1 c.regs.length y1, .int .u32 c.pc, .slice x2 c.data.length y2, .slice x3 c.stack.length y3, .slice x4 c.inn.length y4, .slice x5 c.out.length y5, .int .u32 c.low, .int .i64 c.st] 32)).alloc (.cells #[.slice none 0 0, .int .u32 0, .slice none 0 0, .slice none 0 0, .slice none 0 0, .slice none 0 0, .int .u32 0, .int .i64 0] 32)).heap[w.heap.size]? = some (.cells #[.slice a len cap, .int .i64 d, .int .i64 bd] 25) := by rw [Below.heap_alloc _ _ _ (by simp; omega), Below.heap_alloc _ _ _ (by simp)]; exact heap_alloc_new w _
  have C0 : Bx (((w.alloc (.cells #[.slice a len cap, .int .i64 d, .int .i64 bd] 25)).alloc (.cells #[.slice x1 c.regs.length y1, .int .u32 c.pc, .slice x2 c.data.length y2, .slice x3 c.stack.length y3, .slice x4 c.inn.length y4, .slice x5 c.out.length y5, .int .u32 c.low, .int .i64 c.st] 32)).alloc (.cells #[.slice none 0 0, .int .u32 0, .slice none 0 0, .slice none 0 0, .slice none 0 0, .slice none 0 0, .int .u32 0, .int .i64 0] 32)) (w.heap.size + 1) (.slice x1 c.regs.length y1) (.int .u32 c.pc) (.slice x2 c.data.length y2) (.slice x3 c.stack.length y3) (.slice x4 c.inn.length y4) (.slice x5 c.out.length y5) (.int .u32 c.low) (.int .i64 c.st) := Bx.of_heap (by rw [Below.heap_alloc _ _ _ (by simp)]; have := heap_alloc_new (w.alloc (.cells #[.slice a len cap, .int .i64 d, .int .i64 bd] 25)) (.cells #[.slice x1 c.regs.length y1, .int .u32 c.pc, .slice x2 c.data.length y2, .slice x3 c.stack.length y3, .slice x4 c.inn.length y4, .slice x5 c.out.length y5, .int .u32 c.low, .int .i64 c.st] 32); simpa only [World.size_alloc] using this)
  have R0 : Bx (((w.alloc (.cells #[.slice a len cap, .int .i64 d, .int .i64 bd] 25)).alloc (.cells #[.slice x1 c.regs.length y1, .int .u32 c.pc, .slice x2 c.data.length y2, .slice x3 c.stack.length y3, .slice x4 c.inn.length y4, .slice x5 c.out.length y5, .int .u32 c.low, .int .i64 c.st] 32)).alloc (.cells #[.slice none 0 0, .int .u32 0, .slice none 0 0, .slice none 0 0, .slice none 0 0, .slice none 0 0, .int .u32 0, .int .i64 0] 32)) (w.heap.size + 1 + 1) (.slice none 0 0) (.int .u32 0) (.slice none 0 0) (.slice none 0 0) (.slice none 0 0) (.slice none 0 0) (.int .u32 0) (.int .i64 0) := Bx.of_heap (by have := heap_alloc_new ((w.alloc (.cells #[.slice a len cap, .int .i64 d, .int .i64 bd] 25)).alloc (.cells #[.slice x1 c.regs.length y1, .int .u32 c.pc, .slice x2 c.data.length y2, .slice x3 c.stack.length y3, .slice x4 c.inn.length y4, .slice x5 c.out.length y5, .int .u32 c.low, .int .i64 c.st] 32)) (.cells #[.slice none 0 0, .int .u32 0, .slice none 0 0, .slice none 0 0, .slice none 0 0, .slice none 0 0, .int .u32 0, .int .i64 0] 32); simpa only [World.size_alloc] using this)
  obtain ⟨V0, hV0⟩ : ∃ V0, V0 = (((w.alloc (.cells #[.slice a len cap, .int .i64 d, .int .i64 bd] 25)).alloc (.cells #[.slice x1 c.regs.length y1, .int .u32 c.pc, .slice x2 c.data.length y2, .slice x3 c.stack.length y3, .slice x4 c.inn.length y4, .slice x5 c.out.length y5, .int .u32 c.low, .int .i64 c.st] 32)).alloc (.cells #[.slice none 0 0, .int .u32 0, .slice none 0 0, .slice none 0 0, .slice none 0 0, .slice none 0 0, .int .u32 0, .int .i64 0] 32)) := ⟨_, rfl⟩
  have z0 : V0.heap.size = w.heap.size + 3 := by rw [hV0]; simp
  rw [← hV0] at B0 M0 C0 R0
  have HV : Hid _ := And.intro hv0 hs
  have HB0 : Hid _ := And.intro B0 (And.intro M0 (And.intro C0 R0))
  clear hr hd hs' hi ho ho' hk hLL hnd hs B0 R0 hv0
  have HST : Hid _ := hst
  have HSS : Hid _ := hS.1
  have HCO : Hid _ := And.intro hc (And.intro hco hpc)
  have hlI : (len : Int) ≤ 20000 := by have := hco.1; have := lis_len hc; omega
  clear hst hS hc hco hpc
  have HW0 : Hid _ := hw
  clear hw
  obtain ⟨c00, c01, c02, c03, c04, c05, c06, c07, c0f⟩ := id C0
  have m00 := cell_of M0 (j := 0) rfl
  have m01 := cell_of M0 (j := 1) rfl
  have m02 := cell_of M0 (j := 2) rfl
  clear M0 C0
  go_enter Try.func11, Try.ntmps11
  go_upto_region 1 with fail
  rw [← hV0]
  clear hV0
  go_wp2_with fail
  refine (vi_any a len cap d bd V0 hl).mono ?_
  rintro e w1 ⟨rfl, hb1⟩
  rw [hv]
  have s1 := hb1.size
  have B1 := HB0.out.1.trans (hb1.mono HB0.out.1.size)
  have M1 := (hb1.block w.heap.size (by omega)).trans HB0.out.2.1
  have C1 := HB0.out.2.2.1.below hb1
  have R1 := HB0.out.2.2.2.below hb1
  have HB1 : Hid _ := And.intro B1 (And.intro M1 (And.intro C1 R1))
  clear c00 c01 c02 c03 c04 c05 c06 c07 c0f m00 m01 m02 B1 R1 hb1
  obtain ⟨c00, c01, c02, c03, c04, c05, c06, c07, c0f⟩ := id C1
  have m00 := cell_of M1 (j := 0) rfl
  have m01 := cell_of M1 (j := 1) rfl
  have m02 := cell_of M1 (j := 2) rfl
  clear M1 C1
  go_wp2_with fail
  refine (vc_any a len cap d bd _ L c w1 (HV.out.1.below HB1.out.1) HV.out.2).mono ?_
  rintro e w2 ⟨rfl, hb2⟩
  rw [hg]
  have s2 := hb2.size
  have B2 := HB1.out.1.trans (hb2.mono HB1.out.1.size)
  have M2 := (hb2.block w.heap.size (by omega)).trans HB1.out.2.1
  have C2 := HB1.out.2.2.1.below hb2
  have R2 := HB1.out.2.2.2.below hb2
  have HB2 : Hid _ := And.intro B2 (And.intro M2 (And.intro C2 R2))
  clear c00 c01 c02 c03 c04 c05 c06 c07 c0f m00 m01 m02 B2 R2 hb2
  obtain ⟨c00, c01, c02, c03, c04, c05, c06, c07, c0f⟩ := id C2
  have m00 := cell_of M2 (j := 0) rfl
  have m01 := cell_of M2 (j := 1) rfl
  have m02 := cell_of M2 (j := 2) rfl
  clear M2 C2
  go_wp2_with fail
  refine (cc_any _ L c w2 (HV.out.1.below HB2.out.1) HV.out.2).mono ?_
  rintro e w3 ⟨u3, rfl, ca, hb3⟩
  obtain ⟨L3, cv3, hL3⟩ := ca.toV2
  obtain ⟨k1, k2, k3, k4, k5, p1, q1, p2, q2, p3, q3, p4, q4, p5, q5, rfl⟩ := cv3.shape
  have s3 := hb3.size
  have B3 := HB2.out.1.trans (hb3.mono HB2.out.1.size)
  have M3 := (hb3.block w.heap.size (by omega)).trans HB2.out.2.1
  have R3 := HB2.out.2.2.2.below hb3
  have HB3 : Hid _ := And.intro B3 (And.intro M3 (And.intro R3 (And.intro cv3 (And.intro hL3 cv3.lt))))
  clear c00 c01 c02 c03 c04 c05 c06 c07 c0f m00 m01 m02 B3 M3 R3 hb3 ca cv3 hL3
  go_upto_region 4 with fail
  obtain ⟨V4, hV4⟩ : ∃ V4, V4 = w3.alloc (.cells #[.slice p1 k1 q1, .int .u32 c.pc, .slice p2 k2 q2, .slice p3 k3 q3, .slice p4 k4 q4, .slice p5 k5 q5, .int .u32 c.low, .int .i64 c.st] 32) := ⟨_, rfl⟩
  rw [← hV4]
  have X4 : Bx V4 w3.heap.size (.slice p1 k1 q1) (.int .u32 c.pc) (.slice p2 k2 q2) (.slice p3 k3 q3) (.slice p4 k4 q4) (.slice p5 k5 q5) (.int .u32 c.low) (.int .i64 c.st) := by rw [hV4]; exact Bx.of_heap (heap_alloc_new w3 _)
  have A4 : Below w3.heap.size w3 V4 := by rw [hV4]; exact (Below.refl _ _).alloc (Nat.le_refl _) _
  have zV4 : V4.heap.size = w3.heap.size + 1 := by rw [hV4]; simp
  have R4 := HB3.out.2.2.1.below A4
  have M4 := (A4.block w.heap.size (by omega)).trans HB3.out.2.1
  have cv4 := HB3.out.2.2.2.1.below A4
  have B4 := HB3.out.1.trans (A4.mono (by omega))
  have HB4 : Hid _ := And.intro B4 (And.intro M4 (And.intro R4 (And.intro cv4 X4)))
  obtain ⟨c00, c01, c02, c03, c04, c05, c06, c07, c0f⟩ := id X4
  obtain ⟨z00, z01, z02, z03, z04, z05, z06, z07, z0f⟩ := id R4
  have m00 := cell_of M4 (j := 0) rfl
  have m01 := cell_of M4 (j := 1) rfl
  have m02 := cell_of M4 (j := 2) rfl
  clear hV4 X4 A4 R4 M4 cv4 B4
  have hst' : (c.st == 0) = true := by rw [HST.out]; rfl
  go_upto_region 6 with fail
  obtain ⟨V5, hV5⟩ : ∃ V5, V5 = V4.alloc (.cells #[.bool false, .int .i64 0, .int .i64 0, .int .i64 0, .int .i64 0, .int .i64 0] 66) := ⟨_, rfl⟩
  rw [← hV5]
  have X5 : V5.heap[w3.heap.size + 1]? = some (.cells #[.bool false, .int .i64 0, .int .i64 0, .int .i64 0, .int .i64 0, .int .i64 0] 66) := by rw [hV5, ← zV4]; exact heap_alloc_new V4 _
  have A5 : Below V4.heap.size V4 V5 := by rw [hV5]; exact (Below.refl _ _).alloc (Nat.le_refl _) _
  have zV5 : V5.heap.size = V4.heap.size + 1 := by rw [hV5]; simp
  have N5 := HB4.out.2.2.2.2.below A5
  have R5 := HB4.out.2.2.1.below A5
  have M5 := (A5.block w.heap.size (by omega)).trans HB4.out.2.1
  have cv5 := HB4.out.2.2.2.1.below A5
  have B5 := HB4.out.1.trans (A5.mono (by omega))
  have HB5 : Hid _ := And.intro B5 (And.intro M5 (And.intro R5 (And.intro cv5 (And.intro N5 X5))))
  clear c00 c01 c02 c03 c04 c05 c06 c07 c0f z00 z01 z02 z03 z04 z05 z06 z07 z0f m00 m01 m02
  obtain ⟨c00, c01, c02, c03, c04, c05, c06, c07, c0f⟩ := id N5
  have m00 := cell_of M5 (j := 0) rfl
  have m01 := cell_of M5 (j := 1) rfl
  have m02 := cell_of M5 (j := 2) rfl
  clear hV5 X5 A5 N5 R5 M5 cv5 B5
  go_wp2_with fail
  refine (wi_no a len cap d bd c.pc V5 hlI HCO.out.2.2 HW0.out).mono ?_
  rintro e w6 ⟨i6, rfl, hb6⟩
  have s6 := hb6.size
  have N6 := HB5.out.2.2.2.2.1.below hb6
  have X6 := (hb6.block (w3.heap.size + 1) (by omega)).trans HB5.out.2.2.2.2.2
  have HB6 : Hid _ := And.intro (HB5.out.1.trans (hb6.mono HB5.out.1.size)) (And.intro True.intro (And.intro (HB5.out.2.2.1.below hb6) (And.intro (HB5.out.2.2.2.1.below hb6) N6)))
  clear c00 c01 c02 c03 c04 c05 c06 c07 c0f m00 m01 m02
  obtain ⟨c00, c01, c02, c03, c04, c05, c06, c07, c0f⟩ := id N6
  have x0 := cell_of X6 (j := 0) rfl
  have xx1 := cell_of X6 (j := 1) rfl
  have xx2 := cell_of X6 (j := 2) rfl
  have xx3 := cell_of X6 (j := 3) rfl
  have xx4 := cell_of X6 (j := 4) rfl
  have xx5 := cell_of X6 (j := 5) rfl
  clear N6 X6 hb6
  dsimp only
  go_wp2_with fail
  have hfe : fetchM codes c.pc = Dec.no := by
    unfold fetchM wordAt
    rw [if_neg (by rw [← lis_len HCO.out.1]; exact HW0.out)]
  have hcall := HSS.out w3.heap.size (w3.heap.size :: L3) w6 (CpuV.toIn2 HB6.out.2.2.2.2 HB6.out.2.2.2.1 (fun e => by have := HB3.out.2.2.2.2.2 _ e; omega))
  rw [hfe] at hcall
  refine hcall.mono ?_
  clear hcall hfe
  rintro e w9 ⟨rfl, L9, hin9, hm9, ht9⟩
  obtain ⟨r9, d9, s9, i9, o9, hbx9, L10, rfl, cv9, j1, j2, j3, j4, j5, a1, b1, a2, b2, a3, b3, a4, b4, a5, b5, rfl, rfl, rfl, rfl, rfl⟩ := hin9.value
  have hL3 := HB3.out.2.2.2.2
  have hmem : ∀ k, k ∈ w3.heap.size :: L3 → w.heap.size + 3 ≤ k := fun k hk => by
    rw [List.mem_cons] at hk
    rcases hk with rfl | hk
    · omega
    · have := hL3.1 k hk; omega
  have s9' := ht9.size
  have R9 := HB6.out.2.2.1.keep (ht9.block (w.heap.size + 1 + 1) HB6.out.2.2.1.lt (fun e => by have := hmem _ e; omega))
  have B9 : Below w.heap.size w w9 := ht9.below HB6.out.1 HB6.out.1.size (fun k hk => by have := hmem k hk; omega)
  obtain ⟨c90, c91, c92, c93, c94, c95, c96, c97, c9f⟩ := id hbx9
  obtain ⟨z90, z91, z92, z93, z94, z95, z96, z97, z9f⟩ := id R9
  have H9 : Hid _ := And.intro cv9 (And.intro hm9 (And.intro hmem B9))
  clear hin9 hbx9 cv9 hm9 ht9 R9 B9 hmem hL3
  go_wp2
  refine bodyPost_ret (v := .agg #[.slice a1 j1 b1, .int .u32 nx.pc, .slice a2 j2 b2, .slice a3 j3 b3, .slice a4 j4 b4, .slice a5 j5 b5, .int .u32 nx.low, .int .i64 nx.st]) (by simp [results, Try.results11, go_sem, z90, z91, z92, z93, z94, z95, z96, z97]) rfl ?_
  obtain ⟨cv9, hm9, hmem, B9⟩ := H9.out
  have TR := (Tcs.refl (fun k => k = w.heap.size + 1 + 1) w9).set8 _ rfl (.slice a1 j1 b1) (.int .u32 nx.pc) (.slice a2 j2 b2) (.slice a3 j3 b3) (.slice a4 j4 b4) (.slice a5 j5 b5) (.int .u32 nx.low) (.int .i64 nx.st)
  have zW := HB6.out.1.size
  have hge : ∀ g ∈ L10, w.heap.size + 3 ≤ g := fun g hg => by
    rcases hm9 g (List.mem_cons_of_mem _ hg) with h | h
    · exact hmem g h
    · omega
  exact ⟨_, rfl, (cv9.tcs TR (fun g hg e => by have := hge g hg; omega)).toAt2 (fun g hg => by have := hge g hg; omega), TR.below B9 B9.size (by rintro k rfl; omega)⟩


set_option maxRecDepth 8000 in
set_option maxHeartbeats 1000000 in
theorem sc_step1 (a : Option Addr) (len cap : Nat) (d bd : Int) (v : Value) (L : List Nat) (c : Mc) (w : World) (hl : len ≤ 1048576) (h : CpuV w v L c) (hs : c.regs.length ≤ 2097152 ∧ c.data.length ≤ 2097152 ∧ c.stack.length ≤ 2097152 ∧ c.inn.length ≤ 2097152 ∧ c.out.length ≤ 2097152) (hv : vimg len d bd = true) (hg : goodB d bd c = true) (hst : c.st = 0) (codes : List Int) (hc : Lis .u32 w (.slice a len cap) codes) (nx : Mc) (hS : StepIs codes bd c nx) (hco : CodesOk codes) (hpc : 0 ≤ c.pc ∧ c.pc ≤ 4294967295) (n : Nat) (hn : n < len) (hp : c.pc = 4096 + 4 * (n : Int)) :
    Calls Try.prog 11 #[.agg #[.slice a len cap, .int .i64 d, .int .i64 bd], v] w fun e w' => ∃ u, e = .returned u ∧ CpuAt w' w.heap.size u nx ∧ Below w.heap.size w w' := by
  have hv0 := h
  obtain ⟨r, dv, sv, iv, ov, rfl, hr, hd, hs', hi, ho, hk, hLL, hnd⟩ := h
  have ho' := (Lis.of_own ho).1
  obtain ⟨x1, y1, rfl⟩ := hr.len0
  obtain ⟨x2, y2, rfl⟩ := hd.len0
  obtain ⟨x3, y3, rfl⟩ := hs'.len0
  obtain ⟨x4, y4, rfl⟩ := hi.len0
  obtain ⟨x5, y5, rfl⟩ := ho'.len0
  have B0 : Below w.heap.size w (((w.alloc (.cells #[.slice a len cap, .int .i64 d, .int .i64 bd] 25)).alloc (.cells #[.slice x1 c.regs.length y1, .int .u32 c.pc, .slice x2 c.data.length y2, .slice x3 c.stack.length y3, .slice x4 c.inn.length y4, .slice x5 c.out.length y5, .int .u32 c.low, .int .i64 c.st] 32)).alloc (.cells #[.slice none 0 0, .int .u32 0, .slice none 0 0, .slice none 0 0, .slice none 0 0, .slice none 0 0, .int .u32 0, .int .i64 0] 32)) := (((Below.refl _ _).alloc (Nat.le_refl _) _).alloc (by simp) _).alloc (by simp; omega) _
  have M0 : (((w.alloc (.cells #[.slice a len cap, .int .i64 d, .int .i64 bd] 25)).alloc (.cells #[.slice x1 c.regs.length y1, .int .u32 c.pc, .slice x2 c.data.length y2, .slice x3 c.stack.length y3, .slice x4 c.inn.length y4, .slice x5 c.out.length y5, .int .u32 c.low, .int .i64 c.st] 32)).alloc (.cells #[.slice none 0 0, .int .u32 0, .slice none 0 0, .slice none 0 0, .slice none 0 0, .slice none 0 0, .int .u32 0, .int .i64 0] 32)).heap[w.heap.size]? = some (.cells #[.slice a len cap, .int .i64 d, .int .i64 bd] 25) := by rw [Below.heap_alloc _ _ _ (by simp; omega), Below.heap_alloc _ _ _ (by simp)]; exact heap_alloc_new w _
  have C0 : Bx (((w.alloc (.cells #[.slice a len cap, .int .i64 d, .int .i64 bd] 25)).alloc (.cells #[.slice x1 c.regs.length y1, .int .u32 c.pc, .slice x2 c.data.length y2, .slice x3 c.stack.length y3, .slice x4 c.inn.length y4, .slice x5 c.out.length y5, .int .u32 c.low, .int .i64 c.st] 32)).alloc (.cells #[.slice none 0 0, .int .u32 0, .slice none 0 0, .slice none 0 0, .slice none 0 0, .slice none 0 0, .int .u32 0, .int .i64 0] 32)) (w.heap.size + 1) (.slice x1 c.regs.length y1) (.int .u32 c.pc) (.slice x2 c.data.length y2) (.slice x3 c.stack.length y3) (.slice x4 c.inn.length y4) (.slice x5 c.out.length y5) (.int .u32 c.low) (.int .i64 c.st) := Bx.of_heap (by rw [Below.heap_alloc _ _ _ (by simp)]; have := heap_alloc_new (w.alloc (.cells #[.slice a len cap, .int .i64 d, .int .i64 bd] 25)) (.cells #[.slice x1 c.regs.length y1, .int .u32 c.pc, .slice x2 c.data.length y2, .slice x3 c.stack.length y3, .slice x4 c.inn.length y4, .slice x5 c.out.length y5, .int .u32 c.low, .int .i64 c.st] 32); simpa only [World.size_alloc] using this)
  have R0 : Bx (((w.alloc (.cells #[.slice a len cap, .int .i64 d, .int .i64 bd] 25)).alloc (.cells #[.slice x1 c.regs.length y1, .int .u32 c.pc, .slice x2 c.data.length y2, .slice x3 c.stack.length y3, .slice x4 c.inn.length y4, .slice x5 c.out.length y5, .int .u32 c.low, .int .i64 c.st] 32)).alloc (.cells #[.slice none 0 0, .int .u32 0, .slice none 0 0, .slice none 0 0, .slice none 0 0, .slice none 0 0, .int .u32 0, .int .i64 0] 32)) (w.heap.size + 1 + 1) (.slice none 0 0) (.int .u32 0) (.slice none 0 0) (.slice none 0 0) (.slice none 0 0) (.slice none 0 0) (.int .u32 0) (.int .i64 0) := Bx.of_heap (by have := heap_alloc_new ((w.alloc (.cells #[.slice a len cap, .int .i64 d, .int .i64 bd] 25)).alloc (.cells #[.slice x1 c.regs.length y1, .int .u32 c.pc, .slice x2 c.data.length y2, .slice x3 c.stack.length y3, .slice x4 c.inn.length y4, .slice x5 c.out.length y5, .int .u32 c.low, .int .i64 c.st] 32)) (.cells #[.slice none 0 0, .int .u32 0, .slice none 0 0, .slice none 0 0, .slice none 0 0, .slice none 0 0, .int .u32 0, .int .i64 0] 32); simpa only [World.size_alloc] using this)
  obtain ⟨V0, hV0⟩ : ∃ V0, V0 = (((w.alloc (.cells #[.slice a len cap, .int .i64 d, .int .i64 bd] 25)).alloc (.cells #[.slice x1 c.regs.length y1, .int .u32 c.pc, .slice x2 c.data.length y2, .slice x3 c.stack.length y3, .slice x4 c.inn.length y4, .slice x5 c.out.length y5, .int .u32 c.low, .int .i64 c.st] 32)).alloc (.cells #[.slice none 0 0, .int .u32 0, .slice none 0 0, .slice none 0 0, .slice none 0 0, .slice none 0 0, .int .u32 0, .int .i64 0] 32)) := ⟨_, rfl⟩
  have z0 : V0.heap.size = w.heap.size + 3 := by rw [hV0]; simp
  rw [← hV0] at B0 M0 C0 R0
  have HV : Hid _ := And.intro hv0 hs
  have HB0 : Hid _ := And.intro B0 (And.intro M0 (And.intro C0 R0))
  clear hr hd hs' hi ho ho' hk hLL hnd hs B0 R0 hv0
  have HST : Hid _ := hst
  have HSS : Hid _ := hS.1
  have HCO : Hid _ := And.intro hc (And.intro hco hpc)
  have hlI : (len : Int) ≤ 20000 := by have := hco.1; have := lis_len hc; omega
  clear hst hS hc hco hpc
  have HN0 : Hid _ := And.intro hn hp
  have hnI : (n : Int) < (len : Int) := by omega
  have hnI0 : (0 : Int) ≤ (n : Int) := by omega
  clear hn hp
  obtain ⟨c00, c01, c02, c03, c04, c05, c06, c07, c0f⟩ := id C0
  have m00 := cell_of M0 (j := 0) rfl
  have m01 := cell_of M0 (j := 1) rfl
  have m02 := cell_of M0 (j := 2) rfl
  clear M0 C0
  go_enter Try.func11, Try.ntmps11
  go_upto_region 1 with fail
  rw [← hV0]
  clear hV0
  go_wp2_with fail
  refine (vi_any a len cap d bd V0 hl).mono ?_
  rintro e w1 ⟨rfl, hb1⟩
  rw [hv]
  have s1 := hb1.size
  have B1 := HB0.out.1.trans (hb1.mono HB0.out.1.size)
  have M1 := (hb1.block w.heap.size (by omega)).trans HB0.out.2.1
  have C1 := HB0.out.2.2.1.below hb1
  have R1 := HB0.out.2.2.2.below hb1
  have HB1 : Hid _ := And.intro B1 (And.intro M1 (And.intro C1 R1))
  clear c00 c01 c02 c03 c04 c05 c06 c07 c0f m00 m01 m02 B1 R1 hb1
  obtain ⟨c00, c01, c02, c03, c04, c05, c06, c07, c0f⟩ := id C1
  have m00 := cell_of M1 (j := 0) rfl
  have m01 := cell_of M1 (j := 1) rfl
  have m02 := cell_of M1 (j := 2) rfl
  clear M1 C1
  go_wp2_with fail
  refine (vc_any a len cap d bd _ L c w1 (HV.out.1.below HB1.out.1) HV.out.2).mono ?_
  rintro e w2 ⟨rfl, hb2⟩
  rw [hg]
  have s2 := hb2.size
  have B2 := HB1.out.1.trans (hb2.mono HB1.out.1.size)
  have M2 := (hb2.block w.heap.size (by omega)).trans HB1.out.2.1
  have C2 := HB1.out.2.2.1.below hb2
  have R2 := HB1.out.2.2.2.below hb2
  have HB2 : Hid _ := And.intro B2 (And.intro M2 (And.intro C2 R2))
  clear c00 c01 c02 c03 c04 c05 c06 c07 c0f m00 m01 m02 B2 R2 hb2
  obtain ⟨c00, c01, c02, c03, c04, c05, c06, c07, c0f⟩ := id C2
  have m00 := cell_of M2 (j := 0) rfl
  have m01 := cell_of M2 (j := 1) rfl
  have m02 := cell_of M2 (j := 2) rfl
  clear M2 C2
  go_wp2_with fail
  refine (cc_any _ L c w2 (HV.out.1.below HB2.out.1) HV.out.2).mono ?_
  rintro e w3 ⟨u3, rfl, ca, hb3⟩
  obtain ⟨L3, cv3, hL3⟩ := ca.toV2
  obtain ⟨k1, k2, k3, k4, k5, p1, q1, p2, q2, p3, q3, p4, q4, p5, q5, rfl⟩ := cv3.shape
  have s3 := hb3.size
  have B3 := HB2.out.1.trans (hb3.mono HB2.out.1.size)
  have M3 := (hb3.block w.heap.size (by omega)).trans HB2.out.2.1
  have R3 := HB2.out.2.2.2.below hb3
  have HB3 : Hid _ := And.intro B3 (And.intro M3 (And.intro R3 (And.intro cv3 (And.intro hL3 cv3.lt))))
  clear c00 c01 c02 c03 c04 c05 c06 c07 c0f m00 m01 m02 B3 M3 R3 hb3 ca cv3 hL3
  go_upto_region 4 with fail
  obtain ⟨V4, hV4⟩ : ∃ V4, V4 = w3.alloc (.cells #[.slice p1 k1 q1, .int .u32 c.pc, .slice p2 k2 q2, .slice p3 k3 q3, .slice p4 k4 q4, .slice p5 k5 q5, .int .u32 c.low, .int .i64 c.st] 32) := ⟨_, rfl⟩
  rw [← hV4]
  have X4 : Bx V4 w3.heap.size (.slice p1 k1 q1) (.int .u32 c.pc) (.slice p2 k2 q2) (.slice p3 k3 q3) (.slice p4 k4 q4) (.slice p5 k5 q5) (.int .u32 c.low) (.int .i64 c.st) := by rw [hV4]; exact Bx.of_heap (heap_alloc_new w3 _)
  have A4 : Below w3.heap.size w3 V4 := by rw [hV4]; exact (Below.refl _ _).alloc (Nat.le_refl _) _
  have zV4 : V4.heap.size = w3.heap.size + 1 := by rw [hV4]; simp
  have R4 := HB3.out.2.2.1.below A4
  have M4 := (A4.block w.heap.size (by omega)).trans HB3.out.2.1
  have cv4 := HB3.out.2.2.2.1.below A4
  have B4 := HB3.out.1.trans (A4.mono (by omega))
  have HB4 : Hid _ := And.intro B4 (And.intro M4 (And.intro R4 (And.intro cv4 X4)))
  obtain ⟨c00, c01, c02, c03, c04, c05, c06, c07, c0f⟩ := id X4
  obtain ⟨z00, z01, z02, z03, z04, z05, z06, z07, z0f⟩ := id R4
  have m00 := cell_of M4 (j := 0) rfl
  have m01 := cell_of M4 (j := 1) rfl
  have m02 := cell_of M4 (j := 2) rfl
  clear hV4 X4 A4 R4 M4 cv4 B4
  have hst' : (c.st == 0) = true := by rw [HST.out]; rfl
  go_upto_region 6 with fail
  obtain ⟨V5, hV5⟩ : ∃ V5, V5 = V4.alloc (.cells #[.bool false, .int .i64 0, .int .i64 0, .int .i64 0, .int .i64 0, .int .i64 0] 66) := ⟨_, rfl⟩
  rw [← hV5]
  have X5 : V5.heap[w3.heap.size + 1]? = some (.cells #[.bool false, .int .i64 0, .int .i64 0, .int .i64 0, .int .i64 0, .int .i64 0] 66) := by rw [hV5, ← zV4]; exact heap_alloc_new V4 _
  have A5 : Below V4.heap.size V4 V5 := by rw [hV5]; exact (Below.refl _ _).alloc (Nat.le_refl _) _
  have zV5 : V5.heap.size = V4.heap.size + 1 := by rw [hV5]; simp
  have N5 := HB4.out.2.2.2.2.below A5
  have R5 := HB4.out.2.2.1.below A5
  have M5 := (A5.block w.heap.size (by omega)).trans HB4.out.2.1
  have cv5 := HB4.out.2.2.2.1.below A5
  have B5 := HB4.out.1.trans (A5.mono (by omega))
  have HB5 : Hid _ := And.intro B5 (And.intro M5 (And.intro R5 (And.intro cv5 (And.intro N5 X5))))
  clear c00 c01 c02 c03 c04 c05 c06 c07 c0f z00 z01 z02 z03 z04 z05 z06 z07 z0f m00 m01 m02
  obtain ⟨c00, c01, c02, c03, c04, c05, c06, c07, c0f⟩ := id N5
  have m00 := cell_of M5 (j := 0) rfl
  have m01 := cell_of M5 (j := 1) rfl
  have m02 := cell_of M5 (j := 2) rfl
  clear hV5 X5 A5 N5 R5 M5 cv5 B5
  go_wp2_with fail
  refine (wi_yes a len cap n d bd c.pc V5 hlI hnI HN0.out.2).mono ?_
  rintro e w6 ⟨rfl, hb6⟩
  have s6 := hb6.size
  have N6 := HB5.out.2.2.2.2.1.below hb6
  have M6 := (hb6.block w.heap.size (by omega)).trans HB5.out.2.1
  have X6 := (hb6.block (w3.heap.size + 1) (by omega)).trans HB5.out.2.2.2.2.2
  have HB6 : Hid _ := And.intro (HB5.out.1.trans (hb6.mono HB5.out.1.size)) (And.intro X6 (And.intro (HB5.out.2.2.1.below hb6) (And.intro (HB5.out.2.2.2.1.below hb6) N6)))
  have hlen := lis_len HCO.out.1
  obtain ⟨gm, om, cm, em, hRm, hbm⟩ := lis_some (HCO.out.1.below HB6.out.1) (by have := HN0.out.1; omega)
  simp only [Value.slice.injEq] at em
  obtain ⟨rfl, rfl, rfl⟩ := em
  have cw := hRm.cell n HN0.out.1
  have hdec := decOf_ok (codes.getD n 0) (HCO.out.2.1.2 n HN0.out.1)
  have hfe : fetchM codes c.pc = decOf (codes.getD n 0) := by
    have hp := HN0.out.2
    unfold fetchM wordAt
    rw [if_pos (by refine ⟨?_, ?_, ?_⟩ <;> omega), show ((c.pc - 4096) / 4).toNat = n by omega]
  have HFE : Hid _ := hfe
  generalize codes.getD n 0 = cwd at *
  generalize decOf cwd = D at *
  have HD : Hid (∀ W : World, Calls Try.prog 40 #[.int .u32 cwd] W fun e w' => e = .returned (.agg #[.bool D.o, .int .i64 D.k, .int .i64 D.a, .int .i64 D.b, .int .i64 D.s, .int .i64 D.d]) ∧ Below W.heap.size W w') := hdec.2.1
  clear c00 c01 c02 c03 c04 c05 c06 c07 c0f m00 m01 m02 hdec hfe hRm hbm
  obtain ⟨c00, c01, c02, c03, c04, c05, c06, c07, c0f⟩ := id N6
  have m00 := cell_of M6 (j := 0) rfl
  clear N6 X6 hb6 M6
  dsimp only
  go_wp2_with fail
  refine (HD.out w6).mono ?_
  rintro e w7 ⟨rfl, hb7⟩
  have s7 := hb7.size
  have N7 := HB6.out.2.2.2.2.below hb7
  have X7 := (hb7.block (w3.heap.size + 1) (by omega)).trans HB6.out.2.1
  have HB7 : Hid _ := And.intro (HB6.out.1.trans (hb7.mono HB6.out.1.size)) (And.intro X7 (And.intro (HB6.out.2.2.1.below hb7) (And.intro (HB6.out.2.2.2.1.below hb7) N7)))
  have x0 := cell_of X7 (j := 0) rfl
  have xx1 := cell_of X7 (j := 1) rfl
  have xx2 := cell_of X7 (j := 2) rfl
  have xx3 := cell_of X7 (j := 3) rfl
  have xx4 := cell_of X7 (j := 4) rfl
  have xx5 := cell_of X7 (j := 5) rfl
  have xf : ∀ j, w7.frozen? ⟨w3.heap.size + 1, j, none⟩ = false := fun j => by simp [World.frozen?, X7]
  clear c00 c01 c02 c03 c04 c05 c06 c07 c0f m00 cw HD N7 X7 hb7
  go_wp2_with fail
  have T8 := Tcs.six0x w7 (w3.heap.size + 1) (.bool D.o) (.int .i64 D.k) (.int .i64 D.a) (.int .i64 D.b) (.int .i64 D.s) (.int .i64 D.d)
  obtain ⟨V8, hV8⟩ : ∃ V8, V8 = ((((((w7.setCell ⟨w3.heap.size + 1, 0, none⟩ (.bool D.o)).setCell ⟨w3.heap.size + 1, 1, none⟩ (.int .i64 D.k)).setCell ⟨w3.heap.size + 1, 2, none⟩ (.int .i64 D.a)).setCell ⟨w3.heap.size + 1, 3, none⟩ (.int .i64 D.b)).setCell ⟨w3.heap.size + 1, 4, none⟩ (.int .i64 D.s)).setCell ⟨w3.heap.size + 1, 5, none⟩ (.int .i64 D.d)) := ⟨_, rfl⟩
  rw [← hV8] at T8 ⊢
  have s8 := T8.size
  have hlt3 := HB3.out.2.2.2.2.2
  have HB8 : Hid _ := And.intro (T8.below HB7.out.1 HB7.out.1.size (by rintro k rfl; omega)) (And.intro True.intro (And.intro (HB7.out.2.2.1.keep (T8.block _ HB7.out.2.2.1.lt (by omega))) (And.intro (HB7.out.2.2.2.1.tcs T8 (fun g hg e => by have := hlt3 g hg; omega)) (HB7.out.2.2.2.2.keep (T8.block _ HB7.out.2.2.2.2.lt (by omega))))))
  have hcall := HSS.out w3.heap.size (w3.heap.size :: L3) V8 (CpuV.toIn2 HB8.out.2.2.2.2 HB8.out.2.2.2.1 (fun e => by have := hlt3 _ e; omega))
  rw [HFE.out] at hcall
  refine hcall.mono ?_
  clear hcall hV8 T8 hlt3 x0 xx1 xx2 xx3 xx4 xx5 xf
  rintro e w9 ⟨rfl, L9, hin9, hm9, ht9⟩
  obtain ⟨r9, d9, s9, i9, o9, hbx9, L10, rfl, cv9, j1, j2, j3, j4, j5, a1, b1, a2, b2, a3, b3, a4, b4, a5, b5, rfl, rfl, rfl, rfl, rfl⟩ := hin9.value
  have hL3 := HB3.out.2.2.2.2
  have hmem : ∀ k, k ∈ w3.heap.size :: L3 → w.heap.size + 3 ≤ k := fun k hk => by
    rw [List.mem_cons] at hk
    rcases hk with rfl | hk
    · omega
    · have := hL3.1 k hk; omega
  have s9' := ht9.size
  have R9 := HB8.out.2.2.1.keep (ht9.block (w.heap.size + 1 + 1) HB8.out.2.2.1.lt (fun e => by have := hmem _ e; omega))
  have B9 : Below w.heap.size w w9 := ht9.below HB8.out.1 HB8.out.1.size (fun k hk => by have := hmem k hk; omega)
  obtain ⟨c90, c91, c92, c93, c94, c95, c96, c97, c9f⟩ := id hbx9
  obtain ⟨z90, z91, z92, z93, z94, z95, z96, z97, z9f⟩ := id R9
  have H9 : Hid _ := And.intro cv9 (And.intro hm9 (And.intro hmem B9))
  clear hin9 hbx9 cv9 hm9 ht9 R9 B9 hmem hL3
  go_wp2
  refine bodyPost_ret (v := .agg #[.slice a1 j1 b1, .int .u32 nx.pc, .slice a2 j2 b2, .slice a3 j3 b3, .slice a4 j4 b4, .slice a5 j5 b5, .int .u32 nx.low, .int .i64 nx.st]) (by simp [results, Try.results11, go_sem, z90, z91, z92, z93, z94, z95, z96, z97]) rfl ?_
  obtain ⟨cv9, hm9, hmem, B9⟩ := H9.out
  have TR := (Tcs.refl (fun k => k = w.heap.size + 1 + 1) w9).set8 _ rfl (.slice a1 j1 b1) (.int .u32 nx.pc) (.slice a2 j2 b2) (.slice a3 j3 b3) (.slice a4 j4 b4) (.slice a5 j5 b5) (.int .u32 nx.low) (.int .i64 nx.st)
  have zW := HB8.out.1.size
  have hge : ∀ g ∈ L10, w.heap.size + 3 ≤ g := fun g hg => by
    rcases hm9 g (List.mem_cons_of_mem _ hg) with h | h
    · exact hmem g h
    · omega
  exact ⟨_, rfl, (cv9.tcs TR (fun g hg e => by have := hge g hg; omega)).toAt2 (fun g hg => by have := hge g hg; omega), TR.below B9 B9.size (by rintro k rfl; omega)⟩

end Go.Proofs.Ytabjcodpagjbjaa
