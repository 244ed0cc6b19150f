import Derived.Test.YtkbonhbegpiajaaAS6
namespace Go.Proofs.Ytkbonhbegpiajaa
open Go.RowKit
set_option linter.unusedVariables false
set_option linter.unusedSimpArgs false
set_option linter.unusedSectionVars false
variable [Inhabited Pick]

theorem Pc.below {w w' : World} {b o : Nat} {it : It} {a : Int} {v : Value} {l : Bool} (h : Pc w b o it a v l) (hb : Below w.heap.size w w') : Pc w' b o it a v l := by
  have hlt : b < w.heap.size := World.block_lt_of_cell? _ _ h.c0
  exact ⟨(hb.cell (p := ⟨b, o, none⟩) hlt).trans h.c0, (hb.cell (p := ⟨b, o + 1, none⟩) hlt).trans h.c1, (hb.cell (p := ⟨b, o + 2, none⟩) hlt).trans h.c2, (hb.cell (p := ⟨b, o + 3, none⟩) hlt).trans h.c3, (hb.cell (p := ⟨b, o + 4, none⟩) hlt).trans h.c4, (hb.cell (p := ⟨b, o + 5, none⟩) hlt).trans h.c5, (hb.cell (p := ⟨b, o + 6, none⟩) hlt).trans h.c6, (hb.cell (p := ⟨b, o + 7, none⟩) hlt).trans h.c7, (hb.cell (p := ⟨b, o + 8, none⟩) hlt).trans h.c8, (hb.cell (p := ⟨b, o + 9, none⟩) hlt).trans h.c9⟩
theorem boxF {w w' : World} {o : Obj} {cs : Array Value} {t : TypeId} (h : Below (w.heap.size + 1) (w.alloc (.cells cs t)) w') (k : Nat) : w'.frozen? ⟨w.heap.size, k, none⟩ = false := by
  rw [h.frozen (p := ⟨w.heap.size, k, none⟩) (by simp)]
  simp

set_option maxHeartbeats 4000000 in
theorem bcode_any (b o b2 o2 : Nat) (it it2 : It) (a a2 : Int) (v2 : Value) (l l2 : Bool) (w : World) (h : Pc w b o it a (.pointer (some ⟨b2, o2, none⟩)) l) (h2 : Pc w b2 o2 it2 a2 v2 l2) (ha : 0 ≤ a ∧ a ≤ 1000000000) (ha2 : 0 ≤ a2 ∧ a2 ≤ 1000000000) (hk : it.kind = 3) (ho : 4 ≤ it.ins.op ∧ it.ins.op ≤ 9) :
    Calls Try.prog 34 #[.pointer (some ⟨b, o, none⟩)] w fun e w' => ∃ v, e = .returned v ∧ USrc w' v (wds it (a2 - a) l) ∧ Below w.heap.size w w' := by
  have H : Hid (Pc w b o it a (.pointer (some ⟨b2, o2, none⟩)) l) := h
  have H2 : Hid (Pc w b2 o2 it2 a2 v2 l2) := h2
  have hlb : b < w.heap.size := World.block_lt_of_cell? _ _ h.c0
  obtain ⟨_, c1, c2, c3, c4, c5, _, _, _, c9⟩ := h
  clear h2
  have HW : Hid (wds it (a2 - a) l = if l then [eR { it.ins with op := opp it.ins.op, im := 8 }, eR ⟨2, 0, 0, 0, a2 - a - 4⟩] else [eR { it.ins with im := a2 - a }]) := by
    show _ = _
    unfold wds
    rw [if_neg (by omega), if_pos hk]
  obtain ⟨kd, ⟨op, rd, s1, s2, im⟩, lab⟩ := it
  simp only at c1 c2 c3 c4 c5 ho HW
  have hA : Below w.heap.size w (w.alloc (.cells #[.int .i64 op, .int .i64 rd, .int .i64 s1, .int .i64 s2, .int .i64 im] 36)) := (Below.refl _ _).alloc (Nat.le_refl _) _
  have c9A := ((H.out.below hA).c9)
  cases l
  · have HW0 : Hid (wds ⟨kd, ⟨op, rd, s1, s2, im⟩, lab⟩ (a2 - a) false = [eR ⟨op, rd, s1, s2, a2 - a⟩]) := HW.out
    clear HW
    go_enter Try.func34, Try.ntmps34
    go_wp2_with fail
    refine (dist_any b o b2 o2 _ _ a a2 _ _ _ _ (H.out.below hA) (H2.out.below hA) ha ha2).mono ?_
    rintro e w1 ⟨rfl, hb1⟩
    simp only [World.size_alloc] at hb1
    have hB1 := one_belowA hb1
    obtain ⟨y0, y1, y2, y3, y4⟩ := box5 hb1
    have f4 := boxF (o := .cells #[] 0) hb1 4
    have hl1 : w.heap.size < w1.heap.size := by have := hb1.size; simp at this; omega
    have HEn : Hid (∀ w : World, Calls Try.prog 33 #[.agg #[.int .i64 op, .int .i64 rd, .int .i64 s1, .int .i64 s2, .int .i64 (a2 - a)]] w fun e w' => e = .returned (.int .u32 (eR ⟨op, rd, s1, s2, a2 - a⟩)) ∧ Below w.heap.size w w') := fun w => encI_any ⟨op, rd, s1, s2, a2 - a⟩ w
    generalize eR ⟨op, rd, s1, s2, a2 - a⟩ = R at HEn HW0
    generalize a2 - a = d at HEn ⊢
    clear c1 c2 c3 c4 c5 c9 c9A
    go_wp2_with fail
    refine (HEn.out _).mono ?_
    rintro e w2 ⟨rfl, hb2⟩
    have hB2 : Below w.heap.size w w2 := (hB1.setCell (p := ⟨w.heap.size, 4, none⟩) (Nat.le_refl _) _).trans (hb2.mono (by simp; omega))
    clear y0 y1 y2 y3 y4 f4
    go_wp2_with fail
    go_ret
    exact ⟨_, rfl, by rw [HW0.out]; exact usrc_1 w2 R _, hB2.alloc hB2.size _⟩
  · have HW0 : Hid (wds ⟨kd, ⟨op, rd, s1, s2, im⟩, lab⟩ (a2 - a) true = [eR ⟨opp op, rd, s1, s2, 8⟩, eR ⟨2, 0, 0, 0, a2 - a - 4⟩]) := HW.out
    clear HW
    go_enter Try.func34, Try.ntmps34
    go_wp2_with fail
    refine (opp_any op ho _).mono ?_
    rintro e w1 ⟨rfl, rfl⟩
    have HEn : Hid (∀ w : World, Calls Try.prog 33 #[.agg #[.int .i64 (opp op), .int .i64 rd, .int .i64 s1, .int .i64 s2, .int .i64 8]] w fun e w' => e = .returned (.int .u32 (eR ⟨opp op, rd, s1, s2, 8⟩)) ∧ Below w.heap.size w w') := fun w => encI_any ⟨opp op, rd, s1, s2, 8⟩ w
    have HJ : Hid (∀ w : World, Calls Try.prog 35 #[.int .i64 0, .int .i64 (a2 - a - 4)] w fun e w' => e = .returned (.int .u32 (eR ⟨2, 0, 0, 0, a2 - a - 4⟩)) ∧ Below w.heap.size w w') := fun w => jump_any 0 (a2 - a - 4) w
    generalize eR ⟨opp op, rd, s1, s2, 8⟩ = R at HEn HW0
    generalize eR ⟨2, 0, 0, 0, a2 - a - 4⟩ = R2 at HJ HW0
    generalize opp op = op2 at HEn ⊢
    clear c1 c2 c3 c4 c5 c9
    go_wp2_with fail
    refine (HEn.out _).mono ?_
    rintro e w2 ⟨rfl, hb2⟩
    have hB2 : Below w.heap.size w w2 := ((Below.refl w.heap.size w).alloc (Nat.le_refl _) _).trans (hb2.mono (by simp))
    clear hb2 c9A
    go_wp2_with fail
    refine (dist_any b o b2 o2 _ _ a a2 _ _ _ _ (H.out.below hB2) (H2.out.below hB2) ha ha2).mono ?_
    rintro e w3 ⟨rfl, hb3⟩
    have hB3 := hB2.trans (hb3.mono hB2.size)
    obtain ⟨d, hd⟩ : ∃ d, d = a2 - a := ⟨_, rfl⟩
    rw [← hd] at HJ ⊢
    have hd1 : -1000000000 ≤ d ∧ d ≤ 1000000000 := by omega
    clear hd hb3
    go_wp2_with fail
    refine (HJ.out _).mono ?_
    rintro e w4 ⟨rfl, hb4⟩
    have hB4 := hB3.trans (hb4.mono hB3.size)
    clear hb4
    go_wp2_with fail
    go_ret
    exact ⟨_, rfl, by rw [HW0.out]; exact usrc_2 w4 R R2 _, hB4.alloc hB4.size _⟩

/-- The goal of a piece that has one. -/
def Goal (w : World) (it : It) (v : Value) (a2 : Int) : Prop := it.kind = 3 ∨ it.kind = 4 ∨ it.kind = 5 → ∃ b2 o2 it2 v2 l2, v = .pointer (some ⟨b2, o2, none⟩) ∧ Pc w b2 o2 it2 a2 v2 l2
set_option maxHeartbeats 4000000 in
theorem code_any (b o : Nat) (it : It) (a a2 : Int) (v : Value) (l : Bool) (w : World) (h : Pc w b o it a v l) (h2 : Goal w it v a2) (ha : 0 ≤ a ∧ a ≤ 1000000000) (ha2 : 0 ≤ a2 ∧ a2 ≤ 1000000000) (ho : it.kind = 3 → 4 ≤ it.ins.op ∧ it.ins.op ≤ 9) :
    Calls Try.prog 22 #[.pointer (some ⟨b, o, none⟩)] w fun e w' => ∃ v, e = .returned v ∧ USrc w' v (wds it (a2 - a) l) ∧ Below w.heap.size w w' := by
  have H : Hid (Pc w b o it a v l) := h
  have H2 : Hid (Goal w it v a2) := h2
  have HO : Hid (it.kind = 3 → 4 ≤ it.ins.op ∧ it.ins.op ≤ 9) := ho
  obtain ⟨c0, c1, c2, c3, c4, c5, _, _, _, _⟩ := h
  clear h2 ho
  by_cases h1 : it.kind = 1
  · have HW : Hid (wds it (a2 - a) l = [eR it.ins]) := if_pos h1
    have HEn : Hid (∀ w : World, Calls Try.prog 33 #[.agg #[.int .i64 it.ins.op, .int .i64 it.ins.rd, .int .i64 it.ins.s1, .int .i64 it.ins.s2, .int .i64 it.ins.im]] w fun e w' => e = .returned (.int .u32 (eR it.ins)) ∧ Below w.heap.size w w') := fun w => encI_any it.ins w
    rw [h1] at c0
    generalize eR it.ins = R at HEn HW
    go_enter Try.func22, Try.ntmps22
    go_wp2_with fail
    refine (HEn.out _).mono ?_
    rintro e w1 ⟨rfl, hb1⟩
    go_wp2_with fail
    go_ret
    exact ⟨_, rfl, by rw [HW.out]; exact usrc_1 w1 R _, hb1.alloc hb1.size _⟩
  by_cases h3 : it.kind = 3
  · obtain ⟨b2, o2, it2, v2, l2, rfl, hp2⟩ := H2.out (.inl h3)
    have HP2 : Hid (Pc w b2 o2 it2 a2 v2 l2) := hp2
    have HK : Hid (it.kind = 3) := h3
    rw [h3] at c0
    clear c1 c2 c3 c4 c5 h1 h3 hp2
    go_enter Try.func22, Try.ntmps22
    go_wp2_with fail
    refine (bcode_any b o b2 o2 it it2 a a2 v2 l l2 w H.out HP2.out ha ha2 HK.out (HO.out HK.out)).mono ?_
    rintro e w1 ⟨v1, rfl, hs1, hb1⟩
    have HS1 : Hid (USrc w1 v1 (wds it (a2 - a) l)) := hs1
    obtain ⟨a1, c1, rfl, -⟩ := hs1
    go_wp2_with fail
    go_ret
    exact ⟨_, rfl, HS1.out, hb1⟩
  by_cases h4 : it.kind = 4
  · obtain ⟨b2, o2, it2, v2, l2, rfl, hp2⟩ := H2.out (.inr (.inl h4))
    have HP2 : Hid (Pc w b2 o2 it2 a2 v2 l2) := hp2
    have HW : Hid (wds it (a2 - a) l = [eR ⟨2, 0, 0, 0, a2 - a⟩]) := by
      show _ = _
      unfold wds
      rw [if_neg h1, if_neg h3, if_pos h4]
    have HJ : Hid (∀ w : World, Calls Try.prog 35 #[.int .i64 0, .int .i64 (a2 - a)] w fun e w' => e = .returned (.int .u32 (eR ⟨2, 0, 0, 0, a2 - a⟩)) ∧ Below w.heap.size w w') := fun w => jump_any 0 (a2 - a) w
    rw [h4] at c0
    generalize eR ⟨2, 0, 0, 0, a2 - a⟩ = R at HJ HW
    clear c1 c2 c3 c4 c5 h1 h3 h4 hp2
    go_enter Try.func22, Try.ntmps22
    go_wp2_with fail
    refine (dist_any b o b2 o2 it it2 a a2 v2 l l2 w H.out HP2.out ha ha2).mono ?_
    rintro e w1 ⟨rfl, hb1⟩
    generalize a2 - a = d at HJ ⊢
    go_wp2_with fail
    refine (HJ.out _).mono ?_
    rintro e w2 ⟨rfl, hb2⟩
    have hB2 := hb1.trans (hb2.mono hb1.size)
    go_wp2_with fail
    go_ret
    exact ⟨_, rfl, by rw [HW.out]; exact usrc_1 w2 R _, hB2.alloc hB2.size _⟩
  by_cases h5 : it.kind = 5
  · obtain ⟨b2, o2, it2, v2, l2, rfl, hp2⟩ := H2.out (.inr (.inr h5))
    have HP2 : Hid (Pc w b2 o2 it2 a2 v2 l2) := hp2
    have HW : Hid (wds it (a2 - a) l = [eR ⟨2, 1, 0, 0, a2 - a⟩]) := by
      show _ = _
      unfold wds
      rw [if_neg h1, if_neg h3, if_neg h4, if_pos h5]
    have HJ : Hid (∀ w : World, Calls Try.prog 35 #[.int .i64 1, .int .i64 (a2 - a)] w fun e w' => e = .returned (.int .u32 (eR ⟨2, 1, 0, 0, a2 - a⟩)) ∧ Below w.heap.size w w') := fun w => jump_any 1 (a2 - a) w
    rw [h5] at c0
    generalize eR ⟨2, 1, 0, 0, a2 - a⟩ = R at HJ HW
    clear c1 c2 c3 c4 c5 h1 h3 h4 h5 hp2
    go_enter Try.func22, Try.ntmps22
    go_wp2_with fail
    refine (dist_any b o b2 o2 it it2 a a2 v2 l l2 w H.out HP2.out ha ha2).mono ?_
    rintro e w1 ⟨rfl, hb1⟩
    generalize a2 - a = d at HJ ⊢
    go_wp2_with fail
    refine (HJ.out _).mono ?_
    rintro e w2 ⟨rfl, hb2⟩
    have hB2 := hb1.trans (hb2.mono hb1.size)
    go_wp2_with fail
    go_ret
    exact ⟨_, rfl, by rw [HW.out]; exact usrc_1 w2 R _, hB2.alloc hB2.size _⟩
  · have HW : Hid (wds it (a2 - a) l = []) := by
      show _ = _
      unfold wds
      rw [if_neg h1, if_neg h3, if_neg h4, if_neg h5]
    generalize it.kind = kd at c0 h1 h3 h4 h5
    go_enter Try.func22, Try.ntmps22
    go_wp2_with fail
    go_ret
    exact ⟨_, rfl, by rw [HW.out]; exact usrc_nil w, Below.refl _ _⟩

end Go.Proofs.Ytkbonhbegpiajaa
