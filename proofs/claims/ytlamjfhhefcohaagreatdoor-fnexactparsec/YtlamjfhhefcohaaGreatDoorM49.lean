import Derived.Test.YtlamjfhhefcohaaGreatDoorM48
namespace Go.Proofs.YtlamjfhhefcohaaGreatDoor
set_option linter.unusedVariables false
set_option linter.unusedSimpArgs false
set_option maxRecDepth 100000
set_option maxHeartbeats 16000000
section
open Go.RowKit
set_option maxRecDepth 100000 in
set_option maxHeartbeats 4000000 in
theorem globI_a {C : RC} (HN : NxI C) {m : TV} {w : World} {s : PS} {B : Nat} {t : Tr} (nm : ByteArray) (hS : RSt C m w s) (hT : TrI B w m t) (hPB : C.P + 1 < B) (hB : B ≤ w.heap.size) (hl : t.globals.length ≤ 100000) (hi : isS (tokT C.l) [91] s = true) :
  Calls Tryz.prog 96 #[.pointer (some ⟨C.P, 0, none⟩), .string nm] w (PgI C B w (addT t (.inl ⟨nm, szO (nuS (tokT C.l) (opS (tokT C.l) [91] s)).1⟩)) (taS (tokT C.l) [59] (clS (tokT C.l) [93] (nuS (tokT C.l) (opS (tokT C.l) [91] s)).2))) := by
 obtain ⟨t', Q, hJ⟩ := hT
 obtain ⟨W1, eW1⟩ : ∃ W1, W1 = w.alloc (.cells #[.string nm, .int .i64 0] 74) := ⟨_, rfl⟩
 obtain ⟨M, eM⟩ : ∃ M, M = w.heap.size := ⟨_, rfl⟩
 have h1 := BI.nw #[.string nm, .int .i64 0] 74 (show 0 < 2 by omega) (show 2 ≤ 10 by omega) hS eW1 eM
 have HSe := hide (sees_any h1.st [91] (by decide))
 rw [hi] at HSe
 have hop := hS.op
 have HJ := hide hJ
 have HB := hide (And.intro hPB (And.intro hB hl))
 have HW1 := hide eW1
 have HM := hide eM
 have HEn := hide (enter_any HN h1.st [91] (by decide))
 have HNu : Hid (∀ W, RSt C m W (opS (tokT C.l) [91] s) → Calls Tryz.prog 132 #[.pointer (some ⟨C.P, 0, none⟩)] W (Go1 C m W (nuS (tokT C.l) (opS (tokT C.l) [91] s)).2 (.int .i64 (nuS (tokT C.l) (opS (tokT C.l) [91] s)).1))) := fun W h => numI_any HN h
 have HLe : Hid (∀ W z, RSt C m W z → 1 ≤ z.op → Calls Tryz.prog 130 #[.pointer (some ⟨C.P, 0, none⟩), .string (tx [93])] W (Go1 C m W (clS (tokT C.l) [93] z) (.tuple #[]))) := fun W z h ho => leave_any HN h ho [93] (by decide)
 have HOp : Hid (1 ≤ (nuS (tokT C.l) (opS (tokT C.l) [91] s)).2.op) := by show 1 ≤ _; rw [nu_op, on_op]; omega
 have HEx : Hid (∀ m W z, RSt C m W z → Calls Tryz.prog 92 #[.pointer (some ⟨C.P, 0, none⟩), .string (tx [59])] W (Go1 C m W (taS (tokT C.l) [59] z) (.tuple #[]))) := fun m W z h => expect_any HN h [59] (by decide)
 have HD2 : Hid (Dm (tokT C.l) (opS (tokT C.l) [91] s) (nuS (tokT C.l) (opS (tokT C.l) [91] s)).2) := dm_nu _
 generalize opS (tokT C.l) [91] s = y1 at *
 generalize nuS (tokT C.l) y1 = uz at *
 obtain ⟨u, y2⟩ := uz
 dsimp only at *
 clear eW1 eM hS hJ hPB hB hl HN hop
 have h1 : BI C m w M [.string nm, .int .i64 0] W1 s := h1
 go_enter Tryz.func96, Tryz.ntmps96
 go_upto_region 1 with fail
 rw [← HW1.out, ← HM.out]
 go_wp2_with fail
 refine HSe.out.mono ?_
 rintro e w2 ⟨rfl, hw⟩
 rw [hw]
 clear hw HSe
 go_wp2_with fail
 refine (HEn.out).mono (fun e w3 hg => ?_)
 rcases hg.symm with hd | ⟨-, rfl, z2, t2⟩
 ·have HF : Hid (PgI C B w (addT t (.inl ⟨nm, szO u⟩)) (taS (tokT C.l) [59] (clS (tokT C.l) [93] y2)) e w3) := .inr (hd.later ((HD2.out.trans (dm_cl _ _)).trans (dm_ta _ _)) h1.bb)
  obtain ⟨-, rfl, -⟩ := hd
  unfold flt at *
  go_wp2_with fail
  exact ⟨rfl, HF.out⟩
 have h3 := h1.go z2 t2
 clear z2 t2
 go_wp2_with fail
 refine (HNu.out w3 h3.st).mono (fun e w4 hg => ?_)
 rcases hg.symm with hd | ⟨-, rfl, z2, t2⟩
 ·have HF : Hid (PgI C B w (addT t (.inl ⟨nm, szO u⟩)) (taS (tokT C.l) [59] (clS (tokT C.l) [93] y2)) e w4) := .inr (hd.later ((dm_cl _ _).trans (dm_ta _ _)) h3.bb)
  obtain ⟨-, rfl, -⟩ := hd
  unfold flt at *
  go_wp2_with fail
  exact ⟨rfl, HF.out⟩
 have h4 := h3.go z2 t2
 clear z2 t2
 obtain ⟨X4, eX4⟩ : ∃ X4, X4 = w4.setCell ⟨M, 1, none⟩ (.int .i64 u) := ⟨_, rfl⟩
 obtain ⟨h4b, -⟩ := h4.put 1 (.int .i64 u) eX4
 have h4b : BI C m w M [.string nm, .int .i64 u] X4 y2 := h4b
 have n41 := h4.q (j := 1) rfl
 have HX4 := hide eX4
 clear eX4 h4
 go_upto_region 4 with fail
 rw [← HX4.out]
 clear n41
 go_wp2_with fail
 refine (HLe.out X4 y2 h4b.st HOp.out).mono (fun e w5 hg => ?_)
 rcases hg.symm with hd | ⟨-, rfl, z2, t2⟩
 ·have HF : Hid (PgI C B w (addT t (.inl ⟨nm, szO u⟩)) (taS (tokT C.l) [59] (clS (tokT C.l) [93] y2)) e w5) := .inr (hd.later (dm_ta _ _) h4b.bb)
  obtain ⟨-, rfl, -⟩ := hd
  unfold flt at *
  go_wp2_with fail
  exact ⟨rfl, HF.out⟩
 have h5 := h4b.go z2 t2
 clear z2 t2
 have p9 := h5.st.q.2.2
 have n51 := h5.q (j := 1) rfl
 obtain ⟨X5, eX5⟩ : ∃ X5, X5 = w5.setCell ⟨C.P, 9, none⟩ (.bool (m.nz || decide (u = 0))) := ⟨_, rfl⟩
 have h5b := h5.setm (m' := { m with nz := m.nz || decide (u = 0) }) 9 _ (fun _ _ _ _ _ _ => rfl) eX5
 have HX5 := hide eX5
 clear eX5 h5
 cases hz : m.nz
 ·rw [hz] at HX5 h5b p9
  go_upto_region 6 with fail
  have e5 : w5.setCell ⟨C.P, 9, none⟩ (.bool (u == 0)) = X5 := by rw [HX5.out]; congr 2
  rw [e5]
  clear p9 n51
  go_wp2_with fail
  refine (HEx.out _ X5 _ h5b.st).mono (fun e w6 hg => ?_)
  rcases hg.symm with hd | ⟨-, rfl, z2, t2⟩
  ·have HF : Hid (PgI C B w (addT t (.inl ⟨nm, szO u⟩)) (taS (tokT C.l) [59] (clS (tokT C.l) [93] y2)) e w6) := .inr (hd.later (Dm.refl _) h5b.bb)
   obtain ⟨-, rfl, -⟩ := hd
   unfold flt at *
   go_wp2_with fail
   exact ⟨rfl, HF.out⟩
  have h6x := h5b.go z2 t2
  clear z2 t2
  obtain ⟨W6, eW6⟩ : ∃ W6, W6 = w6.drew := ⟨_, rfl⟩
  have hb6 : Below w6.heap.size w6 W6 := by rw [eW6]; exact drew_below w6
  obtain ⟨W7, eW7⟩ : ∃ W7, W7 = W6.alloc (.cells #[.string nm, .int .i64 u] 74) := ⟨_, rfl⟩
  obtain ⟨b7, eb7⟩ : ∃ b7, b7 = W6.heap.size := ⟨_, rfl⟩
  obtain ⟨v8, W8, r8, hv8, x7, c7, x8, c8, hF⟩ := glob_end h6x HJ.out ⟨rfl, rfl⟩ ⟨nm, szO u⟩ (fun hz2 => ⟨hz, by have hu : ¬ u = 0 := (by simpa using hz2); rw [show szO u = u from if_neg hu]⟩) (fun hz2 => .inr (by have hu : u = 0 := (by simpa using hz2); show szO u = -1; exact if_pos hu)) HB.out.1 HB.out.2.1 HB.out.2.2 hb6 eW7 eb7
  obtain ⟨va, vn, vc, rfl⟩ := hv8
  have h6 := h6x.below hb6
  have hvs : ∃ ga gn gc, m.vg = .slice ga gn gc := by
   obtain ⟨a, c, e, -⟩ := own_shape HJ.out.own.gs
   exact ⟨_, _, _, e⟩
  obtain ⟨ga, gn, gc, hve⟩ := hvs
  have c6 := h6.st.q.1.1
  try dsimp only at c6 c7 c8 r8
  rw [hve] at c6 c7 c8 r8
  have HS := hide (And.intro c6 (And.intro (h6.bx 0 _ rfl).1 (h6.bx 1 _ rfl).1))
  have HS7 := hide (And.intro c7 (And.intro (x7 0 _ rfl).1 (x7 1 _ rfl).1))
  have HS8 := hide (And.intro c8.1 (And.intro (x8 0 _ rfl).1 (x8 1 _ rfl).1))
  have HC8 := hide c8
  have HR8 := hide r8
  have HW6 := hide eW6
  have HW7 := hide eW7
  have HB7 := hide eb7
  have HF := hide hF
  clear eW6 eW7 eb7 r8 x7 c7 x8 c8 hF h6 c6 hb6 h6x hve
  go_upto_region 7 with fail
  refine wp_region_E 12 (fun X => X.cell? ⟨C.P, 6, none⟩ = some (.slice ga gn gc) ∧ X.cell? ⟨M, 0, none⟩ = some (.string nm) ∧ X.cell? ⟨M, 1, none⟩ = some (.int .i64 u)) (by kernel_rfl) ?_
  rw [← HW6.out]
  refine tk 0 [9, 10, 11, 12] HS.out ?_
  refine tk 1 [2, 3, 4, 5, 8, 12] HS.out ?_
  refine tk 2 [3, 4, 5, 8, 12] HS.out ?_
  refine tk 3 [4, 5, 8, 12] HS.out ?_
  refine tk 4 [5, 8, 12] HS.out ?_
  refine tk 5 [8, 12] HS.out ?_
  refine tk 6 [7, 8, 12] HS.out ?_
  clear HS
  refine wpAnyE_one (i := 7) (by kernel_rfl) rfl (fun K hK => ?_)
  go_simp
  rw [← HW7.out, ← HB7.out]
  refine hK.out _ _ (fun _ => HS7.out) ?_
  clear hK K
  try simp only [Act.put, tA, tB, tC]
  refine wpAnyE_one (i := 8) (by kernel_rfl) rfl (fun K hK => ?_)
  refine step_appR rfl (.tmp 41) (.tmp 43) 23 rfl (.slice ga gn gc) (.slice (some ⟨b7, 0, none⟩) 1 1) (.slice va vn vc) W8 rfl rfl HR8.out ?_
  refine hK.out _ _ (fun _ => HS8.out) ?_
  clear hK K HS7
  try simp only [Act.put, tA, tB, tC]
  refine tk 9 [10, 11, 12] HS8.out ?_
  refine tk 10 [11, 12] HS8.out ?_
  refine tk 11 [12] HS8.out ?_
  clear HS8
  have c80 := HC8.out.1
  have c81 := HC8.out.2
  refine wpAnyE_one (i := 12) (by kernel_rfl) rfl (fun K hK => ?_)
  go_simp
  refine hK.out _ _ (fun h => absurd rfl h) ?_
  clear hK K
  refine wpAnyE_done (by kernel_rfl) ?_ _
  go_wp2_with fail
  refine bodyPost_ret (results_none rfl _ _ _) rfl ?_
  exact HF.out
 ·rw [hz] at HX5 h5b p9
  go_upto_region 6 with fail
  have e5 : w5.setCell ⟨C.P, 9, none⟩ (.bool true) = X5 := by rw [HX5.out]; rfl
  rw [e5]
  clear p9 n51
  go_wp2_with fail
  refine (HEx.out _ X5 _ h5b.st).mono (fun e w6 hg => ?_)
  rcases hg.symm with hd | ⟨-, rfl, z2, t2⟩
  ·have HF : Hid (PgI C B w (addT t (.inl ⟨nm, szO u⟩)) (taS (tokT C.l) [59] (clS (tokT C.l) [93] y2)) e w6) := .inr (hd.later (Dm.refl _) h5b.bb)
   obtain ⟨-, rfl, -⟩ := hd
   unfold flt at *
   go_wp2_with fail
   exact ⟨rfl, HF.out⟩
  have h6x := h5b.go z2 t2
  clear z2 t2
  obtain ⟨W6, eW6⟩ : ∃ W6, W6 = w6.drew := ⟨_, rfl⟩
  have hb6 : Below w6.heap.size w6 W6 := by rw [eW6]; exact drew_below w6
  obtain ⟨W7, eW7⟩ : ∃ W7, W7 = W6.alloc (.cells #[.string nm, .int .i64 u] 74) := ⟨_, rfl⟩
  obtain ⟨b7, eb7⟩ : ∃ b7, b7 = W6.heap.size := ⟨_, rfl⟩
  obtain ⟨v8, W8, r8, hv8, x7, c7, x8, c8, hF⟩ := glob_end h6x HJ.out ⟨rfl, rfl⟩ ⟨nm, szO u⟩ (fun hz2 => absurd hz2 (by simp)) (fun _ => .inl hz) HB.out.1 HB.out.2.1 HB.out.2.2 hb6 eW7 eb7
  obtain ⟨va, vn, vc, rfl⟩ := hv8
  have h6 := h6x.below hb6
  have hvs : ∃ ga gn gc, m.vg = .slice ga gn gc := by
   obtain ⟨a, c, e, -⟩ := own_shape HJ.out.own.gs
   exact ⟨_, _, _, e⟩
  obtain ⟨ga, gn, gc, hve⟩ := hvs
  have c6 := h6.st.q.1.1
  try dsimp only at c6 c7 c8 r8
  rw [hve] at c6 c7 c8 r8
  have HS := hide (And.intro c6 (And.intro (h6.bx 0 _ rfl).1 (h6.bx 1 _ rfl).1))
  have HS7 := hide (And.intro c7 (And.intro (x7 0 _ rfl).1 (x7 1 _ rfl).1))
  have HS8 := hide (And.intro c8.1 (And.intro (x8 0 _ rfl).1 (x8 1 _ rfl).1))
  have HC8 := hide c8
  have HR8 := hide r8
  have HW6 := hide eW6
  have HW7 := hide eW7
  have HB7 := hide eb7
  have HF := hide hF
  clear eW6 eW7 eb7 r8 x7 c7 x8 c8 hF h6 c6 hb6 h6x hve
  go_upto_region 7 with fail
  refine wp_region_E 12 (fun X => X.cell? ⟨C.P, 6, none⟩ = some (.slice ga gn gc) ∧ X.cell? ⟨M, 0, none⟩ = some (.string nm) ∧ X.cell? ⟨M, 1, none⟩ = some (.int .i64 u)) (by kernel_rfl) ?_
  rw [← HW6.out]
  refine tk 0 [9, 10, 11, 12] HS.out ?_
  refine tk 1 [2, 3, 4, 5, 8, 12] HS.out ?_
  refine tk 2 [3, 4, 5, 8, 12] HS.out ?_
  refine tk 3 [4, 5, 8, 12] HS.out ?_
  refine tk 4 [5, 8, 12] HS.out ?_
  refine tk 5 [8, 12] HS.out ?_
  refine tk 6 [7, 8, 12] HS.out ?_
  clear HS
  refine wpAnyE_one (i := 7) (by kernel_rfl) rfl (fun K hK => ?_)
  go_simp
  rw [← HW7.out, ← HB7.out]
  refine hK.out _ _ (fun _ => HS7.out) ?_
  clear hK K
  try simp only [Act.put, tA, tB, tC]
  refine wpAnyE_one (i := 8) (by kernel_rfl) rfl (fun K hK => ?_)
  refine step_appR rfl (.tmp 41) (.tmp 43) 23 rfl (.slice ga gn gc) (.slice (some ⟨b7, 0, none⟩) 1 1) (.slice va vn vc) W8 rfl rfl HR8.out ?_
  refine hK.out _ _ (fun _ => HS8.out) ?_
  clear hK K HS7
  try simp only [Act.put, tA, tB, tC]
  refine tk 9 [10, 11, 12] HS8.out ?_
  refine tk 10 [11, 12] HS8.out ?_
  refine tk 11 [12] HS8.out ?_
  clear HS8
  have c80 := HC8.out.1
  have c81 := HC8.out.2
  refine wpAnyE_one (i := 12) (by kernel_rfl) rfl (fun K hK => ?_)
  go_simp
  refine hK.out _ _ (fun h => absurd rfl h) ?_
  clear hK K
  refine wpAnyE_done (by kernel_rfl) ?_ _
  go_wp2_with fail
  refine bodyPost_ret (results_none rfl _ _ _) rfl ?_
  exact HF.out
end
section
open Go.RowKit
set_option maxRecDepth 100000 in
set_option maxHeartbeats 1000000 in
theorem param_any {C : RC} (HN : NxI C) {m : TV} {w : World} {s : PS} (h : RSt C m w s) : Calls Tryz.prog 129 #[.pointer (some ⟨C.P, 0, none⟩)] w (Go1 C m w (hdS (tokT C.l) s).2 (.string (hdS (tokT C.l) s).1)) := by
 have HE := hide (expect_any HN h [105, 110, 116] (by decide))
 have HNa : Hid (∀ W, RSt C m W (taS (tokT C.l) [105, 110, 116] s) → Calls Tryz.prog 93 #[.pointer (some ⟨C.P, 0, none⟩)] W (Go1 C m W (hdS (tokT C.l) s).2 (.string (hdS (tokT C.l) s).1))) := fun W hW => nameI_any HN hW
 have HD : Hid (Dm (tokT C.l) (taS (tokT C.l) [105, 110, 116] s) (hdS (tokT C.l) s).2) := dm_na _
 have HB0 := hide h.b0
 have HTb : Hid (∀ W, Tcs (fun k => k = C.P) w W → Kp C w W) := fun W ht => h.tb ht
 generalize taS (tokT C.l) [105, 110, 116] s = z1 at *
 generalize (hdS (tokT C.l) s).2 = z2 at *
 generalize (hdS (tokT C.l) s).1 = x at *
 clear h HN
 go_enter Tryz.func129, Tryz.ntmps129
 go_wp2_with fail
 refine HE.out.mono (fun e w1 hg => ?_)
 rcases hg.symm with hd | ⟨-, rfl, z3, t3⟩
 ·have HF : Hid (Go1 C m w z2 (.string x) e w1) := .inr (hd.later HD.out (Kp.refl _ _))
  obtain ⟨-, rfl, -⟩ := hd
  unfold flt at *
  go_wp2_with fail
  exact ⟨rfl, HF.out⟩
 have HC := hide (HNa.out w1 z3)
 have HT1 := hide (And.intro t3 (HTb.out w1 t3))
 clear z3 t3
 go_wp2_with fail
 refine HC.out.mono (fun e w2 hg => ?_)
 rcases hg.symm with hd | ⟨h1, rfl, z4, t4⟩
 ·have HF : Hid (Go1 C m w z2 (.string x) e w2) := .inr (hd.later (Dm.refl _) HT1.out.2)
  obtain ⟨-, rfl, -⟩ := hd
  unfold flt at *
  go_wp2_with fail
  exact ⟨rfl, HF.out⟩
 have HF : Hid (Go1 C m w z2 (.string x) (.returned (.string x)) w2) := .inl ⟨h1, rfl, z4, HT1.out.1.trans t4⟩
 clear h1 z4 t4
 go_wp2_with fail
 go_ret
 exact HF.out
structure FuB (C : RC) (m : TV) (w : World) (M : Nat) (nm : ByteArray) (vp : Value) (o : List ByteArray) (W : World) (z : PS) : Prop where
 bi : BI C m w M [.string nm, vp, .slice none 0 0] W z
 row : PRow (M + 1) W vp o
section
variable {C : RC} {m : TV} {w W W' : World} {M : Nat} {nm : ByteArray} {vp : Value} {o : List ByteArray} {z z' : PS}
theorem FuB.bb (h : FuB C m w M nm vp o W z) : Kp C w W := h.bi.bb
theorem FuB.pm (h : FuB C m w M nm vp o W z) : C.P < M + 1 := by have := h.bi.hl; have := h.bi.mw; omega
theorem FuB.go (h : FuB C m w M nm vp o W z) (hz : RSt C m W' z') (ht : Tcs (fun k => k = C.P) W W') : FuB C m w M nm vp o W' z' := ⟨h.bi.go hz ht, own_tcs h.row ht (fun k hk => by rw [hk]; exact h.pm)⟩
theorem FuB.below (h : FuB C m w M nm vp o W z) (hb : Below W.heap.size W W') : FuB C m w M nm vp o W' z := ⟨h.bi.below hb, ownB h.row hb⟩
theorem FuB.app {W5 : World} {b : Nat} (h : FuB C m w M nm vp o W z) (x : ByteArray) (hl : o.length ≤ 2000000) (hW : W5 = W.alloc (.cells #[.string x] 9)) (hb : b = W.heap.size) :
  ∃ ua un uc w', (Builtin.append_ #[40, 40] 40 #[vp, .slice (some ⟨b, 0, none⟩) 1 1]).run Tryz.prog W5 = .ok (.slice ua un uc) w' ∧ W5.cell? ⟨M, 1, none⟩ = some vp ∧ (w'.cell? ⟨M, 1, none⟩ = some vp ∧ w'.frozen? ⟨M, 1, none⟩ = false) ∧ FuB C m w M nm (.slice ua un uc) (o ++ [x]) (w'.setCell ⟨M, 1, none⟩ (.slice ua un uc)) z := by
 have hm := h.bi.m
 obtain ⟨v', w', r1, r2, r3, r4⟩ := prow_app x h.row (show M + 1 ≤ W.heap.size by omega) hl hW hb
 have hb5 : Below W.heap.size W W5 := by rw [hW]; exact (Below.refl _ _).alloc (Nat.le_refl _) _
 have hv : ∀ k, vp.ownBlock = some k → M + 1 ≤ k := fun k hk => (World.ownsRow.lt h.row k hk).1
 have hhi := h.bi.st.ok.hi
 have hmw := h.bi.mw
 have hhl := h.bi.hl
 obtain ⟨a, c, hve, -⟩ := own_shape r2
 obtain ⟨n, hn⟩ : ∃ n, n = (o ++ [x]).length := ⟨_, rfl⟩
 rw [← hn] at hve
 subst hve
 have hI : BI C m w M [.string nm, vp, .slice none 0 0] w' z := ⟨h.bi.st.tcs r3 (fun e => by have := hv _ e; omega) (fun k hk => by have := hv k hk; omega), h.bi.bx.tcs hm r3 (fun e => by have := hv _ e; omega), h.bi.t.next r3 (fun k hk => .inr (by have := hv k hk; omega)), Nat.lt_of_lt_of_le hm r3.size, hmw, hhl⟩
 obtain ⟨hI2, t2⟩ := hI.put 1 (.slice a n c) rfl
 exact ⟨a, n, c, w', r1, ((h.bi.below hb5).q (j := 1) rfl).1, hI.q (j := 1) rfl, hI2, own_tcs r2 t2 (fun k hk => by omega)⟩
end
theorem func_end {C : RC} {m : TV} {B M B2 : Nat} {w W W' W7 : World} {nm : ByteArray} {vp vb : Value} {ps : List ByteArray} {R : List SV} {z : PS} {t t' : Tr} {Q : List FV} {b : Nat} (h : BI C m w M [.string nm, vp, vb] W z) (hp : PRow (M + 1) W vp ps) (hpl : ∀ g, vp.ownBlock = some g → g < B2) (hr : StRow B2 W vb R) (hMB : M + 1 ≤ B2) (hJ : TrJ B w m t t' Q) (hPB : C.P + 1 < B) (hB : B ≤ w.heap.size) (hl : t.funcs.length ≤ 100000)
  (hb : Below W.heap.size W W') (hW : W7 = W'.alloc (.cells #[.string nm, vp, vb] 43)) (hbe : b = W'.heap.size) :
  ∃ v8 W8, (Builtin.append_ #[24, 24] 24 #[m.vf, .slice (some ⟨b, 0, none⟩) 1 1]).run Tryz.prog W7 = .ok v8 W8 ∧ (∃ a n c, v8 = .slice a n c) ∧ FrC W7 M [.string nm, vp, vb] ∧ W7.cell? ⟨C.P, 7, none⟩ = some m.vf ∧ FrC W8 M [.string nm, vp, vb] ∧ (W8.cell? ⟨C.P, 7, none⟩ = some m.vf ∧ W8.frozen? ⟨C.P, 7, none⟩ = false) ∧ PgI C B w (addT t (.inr ⟨nm, ps, R.map SV.s⟩)) z (.returned (.tuple #[])) (W8.setCell ⟨C.P, 7, none⟩ v8) := by
 have h' := h.below hb
 have hmw := h.mw
 obtain ⟨v8, W8, r1, r2, r3, Q', r4⟩ := hJ.own.addF nm ps (M := M + 1) h'.t (fun k hk => by rw [hk]; have := hPB; omega) hB (by omega) hMB (ownB hp hb) hpl (hr.below hb) hW hbe (by rw [hJ.fu]; exact hl)
 have hvf : ∀ k, m.vf.ownBlock = some k → B ≤ k ∧ k < w.heap.size := fun k hk => World.ownsRow.lt hJ.own.fs.row k hk
 have hhi := h.st.ok.hi
 have hst8 : RSt C m W8 z := h'.st.tcs r2 (fun e => by have := (hvf _ e).1; omega) (fun k hk => by have := (hvf k hk).1; omega)
 have hx8 := h'.bx.tcs h'.m r2 (fun e => by have := (hvf _ e).2; omega)
 have hb7 : Below W'.heap.size W' W7 := by rw [hW]; exact (Below.refl _ _).alloc (Nat.le_refl _) _
 have h7 := h'.below hb7
 obtain ⟨s9, t9⟩ := hst8.setm (m' := { m with vf := v8 }) 7 v8 (fun _ _ _ _ _ _ => rfl)
 refine ⟨v8, W8, r1, r3, h7.bx, h7.st.q.2.1.1, hx8, hst8.q.2.1, .inl ⟨h.st.al, _, rfl, s9, ⟨⟨t'.globals, t'.funcs ++ [⟨nm, ps, R.map SV.s⟩]⟩, Q', r4.tcs t9 (fun k hk => by rw [hk]; have := hPB; omega), ?_, hJ.len, hJ.eq, hJ.bad⟩, ?_⟩⟩
 ·simp only [addT, hJ.fu]
 ·exact (((h'.t.mono fun k hk => .inl hk).trans (r2.mono fun k hk => .inr (hvf k hk).1)).trans (t9.mono fun k hk => .inl hk))
end
section
open Go.RowKit
theorem smI_step {C : RC} (HN : NxI C) {n : Nat} (hEd : EdI C n) (hWt : WtI C n) (hNm : NmI C n) (hBk : BkI C n) : SmI C (n + 1) := by
 intro w m B s v R r s' hP hS hr hPB hBw hl
 rcases st_inv hP with ⟨hi, hp⟩ | ⟨hi, a, s1, b, s2, hp, hb, ⟨he, rfl, rfl⟩ | ⟨he, c, hc, rfl⟩⟩ | ⟨hi, a, s1, b, hp, hb, rfl⟩ | ⟨hi, a, s1, hp, rfl, rfl⟩ | ⟨hi, a, s1, hp, rfl, rfl⟩ | ⟨hq, hcs⟩
 ·exact im_int HN hEd hS hr hPB hBw hl hi hp
 ·rw [szS_cons] at hl
  simp only [List.length_nil] at hl
  exact im_if HN (n := n) hS hr hPB hBw hi (hp.dm.trans hb.dm) (fun W h => ch_no HN hWt hBk h.st h.row hPB h.le hp hb (by omega) he)
 ·rw [szS_cons, szS_app] at hl
  simp only [List.length_nil] at hl
  exact im_if HN (n := n) hS hr hPB hBw hi (hp.dm.trans (hb.dm.trans (Dm.no (is_nd he).1))) (fun W h => ch_el HN hWt hBk h.st h.row hPB h.le hp hb (by omega) he hc)
 ·rw [szS_cons] at hl
  simp only [List.length_nil] at hl
  exact im_while HN hWt hBk hS hr hPB hBw (by omega) hi hp hb
 ·rw [szS_cons, szS_nil] at hl
  simp only [List.length_nil] at hl
  exact im_ret HN hEd hS hr hPB hBw (by omega) hi hp
 ·rw [szS_cons, szS_nil] at hl
  simp only [List.length_nil] at hl
  exact im_out HN hWt hS hr hPB hBw (by omega) hi hp
 ·have hdn : Dm (tokT C.l) (naS (tokT C.l) s).2 s' := by
   rcases hcs with ⟨-, a, s1, h1, h2⟩ | ⟨-, -, a, s1, h1, -, rfl⟩ | ⟨-, -, h1⟩
   ·exact h1.dm.trans h2.dm
   ·exact h1.dm.trans (dm_ta _ _)
   ·exact h1.dm
  by_cases hk : kiI (tokT C.l s.i) = 1
  ·exact im_name HN hNm hS hr hPB hBw hl hk hcs hdn
  ·exact im_none HN (n := n) hS hr hPB hBw hk hq hdn
theorem all_xs {C : RC} (HN : NxI C) : ∀ n : Nat, n ≤ 1000000 → SmI C n ∧ BkI C n
 | 0, _ => ⟨fun _ _ _ _ _ _ _ _ h => (by cases h using Pa_i), fun _ _ _ _ _ _ _ _ h => (by cases h using Pa_i)⟩
 | n + 1, hn => by
  obtain ⟨h1, h2⟩ := all_xs HN n (by omega)
  obtain ⟨e1, e2, e3⟩ := all_xi HN n (by omega)
  have hE := exI_of e1
  have hEd := edI_of HN hE
  have hWt := wtI_of HN hE
  exact ⟨smI_step HN hEd hWt (nmI_of HN hEd hWt e3) h2, bkI_step HN h1⟩
end
section
open Go.RowKit
set_option maxRecDepth 100000 in
set_option maxHeartbeats 8000000 in
theorem funcI_any {C : RC} (HN : NxI C) {n : Nat} (hn : n ≤ 1000000) {m : TV} {w : World} {s : PS} {B : Nat} {t : Tr} (nm : ByteArray) {ps : List ByteArray} {s1 : PS} {b : List St} {s2 : PS} (hS : RSt C m w s) (hT : TrI B w m t) (hPB : C.P + 1 < B) (hB : B ≤ w.heap.size) (hl : t.funcs.length ≤ 100000)
  (hp : Pa (tokT C.l) n (.pl []) (opS (tokT C.l) [40] s) (.p ps) s1) (hb : Pa (tokT C.l) n .bl (clS (tokT C.l) [41] s1) (.s b) s2) (hsz : ps.length ≤ 1000000 ∧ szS b ≤ 1000000) :
  Calls Tryz.prog 95 #[.pointer (some ⟨C.P, 0, none⟩), .string nm] w (PgI C B w (addT t (.inr ⟨nm, ps, b⟩)) s2) := by
 obtain ⟨t', Q, hJ⟩ := hT
 obtain ⟨W1, eW1⟩ : ∃ W1, W1 = w.alloc (.cells #[.string nm, .slice none 0 0, .slice none 0 0] 43) := ⟨_, rfl⟩
 obtain ⟨M, eM⟩ : ∃ M, M = w.heap.size := ⟨_, rfl⟩
 have h1 : FuB C m w M nm (.slice none 0 0) [] W1 s := ⟨BI.nw #[.string nm, .slice none 0 0, .slice none 0 0] 43 (show 0 < 3 by omega) (show 3 ≤ 10 by omega) hS eW1 eM, World.ownsRow_nil _ _ _ _⟩
 have HEn := hide (enter_any HN h1.bi.st [40] (by decide))
 have HSe : Hid (∀ W z, RSt C m W z → Calls Tryz.prog 94 #[.pointer (some ⟨C.P, 0, none⟩), .string (tx [41])] W fun e w' => e = .returned (.bool (isS (tokT C.l) [41] z)) ∧ w' = W) := fun W z h => sees_any h [41] (by decide)
 have HPm : Hid (∀ W z, RSt C m W z → Calls Tryz.prog 129 #[.pointer (some ⟨C.P, 0, none⟩)] W (Go1 C m W (hdS (tokT C.l) z).2 (.string (hdS (tokT C.l) z).1))) := fun W z h => param_any HN h
 have HSk : Hid (∀ W z, RSt C m W z → Calls Tryz.prog 126 #[.pointer (some ⟨C.P, 0, none⟩), .string (tx [44])] W fun e w' => (isS (tokT C.l) [44] z = false ∧ e = .returned (.bool false) ∧ w' = W) ∨ (isS (tokT C.l) [44] z = true ∧ Go1 C m W z.ad (.bool true) e w')) := fun W z h => skip_any HN h [44] (by decide)
 have HLe : Hid (∀ W z, RSt C m W z → 1 ≤ z.op → Calls Tryz.prog 130 #[.pointer (some ⟨C.P, 0, none⟩), .string (tx [41])] W (Go1 C m W (clS (tokT C.l) [41] z) (.tuple #[]))) := fun W z h ho => leave_any HN h ho [41] (by decide)
 have HOp : Hid (1 ≤ s1.op) := by show 1 ≤ s1.op; rw [hp.op, on_op]; have := hS.op; omega
 have HBk : Hid (∀ W, RSt C m W (clS (tokT C.l) [41] s1) → Calls Tryz.prog 131 #[.pointer (some ⟨C.P, 0, none⟩), .slice none 0 0] W (StI C m W W.heap.size (.slice none 0 0) [] b s2)) := fun W h => (all_xs HN n hn).2 W m W.heap.size _ _ [] b s2 hb h ⟨World.ownsRow_nil _ _ _ _, (fun q hq => by cases hq), List.nodup_nil, fun g hg => (by simp [Value.ownBlock] at hg)⟩ h.lt (Nat.le_refl _) (by simp only [List.length_nil]; omega)
 have HDb : Hid (Dm (tokT C.l) (clS (tokT C.l) [41] s1) s2) := hb.dm
 have HDp : Hid (Dm (tokT C.l) (opS (tokT C.l) [40] s) s2) := (hp.dm.trans (dm_cl _ _)).trans hb.dm
 have HJ := hide hJ
 have HB := hide (And.intro hPB (And.intro hB hl))
 have HW1 := hide eW1
 have HM := hide eM
 have HSz := hide hsz.1
 have HPp := hide hp
 generalize opS (tokT C.l) [40] s = z0 at *
 clear eW1 eM hS hJ hPB hB hl HN hp hb hsz
 go_enter Tryz.func95, Tryz.ntmps95
 go_upto_region 1 with fail
 rw [← HW1.out, ← HM.out]
 go_wp2_with fail
 refine (HEn.out).mono (fun e w2 hg => ?_)
 rcases hg.symm with hd | ⟨-, rfl, z2, t2⟩
 ·have HF : Hid (PgI C B w (addT t (.inr ⟨nm, ps, b⟩)) s2 e w2) := .inr (hd.later (HDp.out) h1.bb)
  obtain ⟨-, rfl, -⟩ := hd
  unfold flt at *
  go_wp2_with fail
  exact ⟨rfl, HF.out⟩
 have h2 := h1.go z2 t2
 clear z2 t2
 go_wp2_with fail
 have hse := hide (HSe.out w2 z0 h2.bi.st)
 rcases pl_inv HPp.out with ⟨h0, -⟩ | ⟨h0, -, hi, hpe, hse1⟩ | ⟨h0, hor, hcs⟩
 ·exact absurd (al_er h2.bi.st.al) h0
 ·subst hse1
  have h2' : FuB C m w M nm (.slice none 0 0) ps w2 s1 := by rw [hpe]; exact h2
  clear h2 hpe
  refine hse.out.mono ?_
  rintro e w3 ⟨rfl, hw⟩
  rw [hw, hi]
  clear hw hse HPp
  go_wp2_with fail
  refine (HLe.out _ _ h2'.bi.st HOp.out).mono (fun e w9 hg => ?_)
  rcases hg.symm with hd | ⟨-, rfl, z2, t2⟩
  ·have HF : Hid (PgI C B w (addT t (.inr ⟨nm, ps, b⟩)) s2 e w9) := .inr (hd.later (HDb.out) h2'.bb)
   obtain ⟨-, rfl, -⟩ := hd
   unfold flt at *
   go_wp2_with fail
   exact ⟨rfl, HF.out⟩
  have h9 := h2'.go z2 t2
  clear z2 t2
  have m2 := (h9.bi.q (j := 2) rfl)
  have HC9 := hide (HBk.out w9 h9.bi.st)
  go_wp2_with fail
  refine HC9.out.mono (fun e w10 hg => ?_)
  rcases hg.symm with hd | ⟨-, ub, R2, rfl, hR2, hsb⟩
  ·have HF : Hid (PgI C B w (addT t (.inr ⟨nm, ps, b⟩)) s2 e w10) := .inr (hd.later (Dm.refl _) h9.bb)
   obtain ⟨-, rfl, -⟩ := hd
   unfold flt at *
   go_wp2_with fail
   exact ⟨rfl, HF.out⟩
  have t10 : Tcs (fun k => k = C.P) w9 w10 := hsb.t.mono fun k hk => by
   rcases hk with hk | hk
   ·exact hk
   ·simp [Value.ownBlock] at hk
  have h10 := h9.go hsb.st t10
  obtain ⟨ba, bc, hbe, -⟩ := own_shape hsb.row.row
  obtain ⟨bn, hbn⟩ : ∃ bn, bn = ([] ++ R2).length := ⟨_, rfl⟩
  rw [← hbn] at hbe
  subst hbe
  obtain ⟨X10, eX10⟩ : ∃ X10, X10 = w10.setCell ⟨M, 2, none⟩ (.slice ba bn bc) := ⟨_, rfl⟩
  obtain ⟨h11, t11⟩ := h10.bi.put 2 (.slice ba bn bc) eX10
  have h11 : BI C m w M [.string nm, Value.slice none 0 0, .slice ba bn bc] X10 s2 := h11
  have hm9 := h9.bi.m
  have hr11 : PRow (M + 1) X10 (Value.slice none 0 0) ps := own_tcs h10.row t11 (fun k hk => by omega)
  have hs11 : StRow w9.heap.size X10 (.slice ba bn bc) ([] ++ R2) := hsb.row.tcs t11 (fun g hg e => by have := (World.ownsRow.lt hsb.row.row g hg).1; omega) (fun g hg e => by have := (hsb.row.rng g hg).1; omega)
  have hpl : ∀ g, (Value.slice none 0 0).ownBlock = some g → g < w9.heap.size := fun g hg => (World.ownsRow.lt h9.row g hg).2
  have m10 := h10.bi.q (j := 2) rfl
  have HX10 := hide eX10
  have HR2 : Hid (([] ++ R2 : List SV).map SV.s = b) := hR2
  clear eX10 h9 h10 t10 t11 hsb hbn hR2 HC9
  go_upto_region 8 with fail
  rw [← HX10.out]
  clear m10 m2
  obtain ⟨W12, eW12⟩ : ∃ W12, W12 = X10.drew := ⟨_, rfl⟩
  have hb12 : Below X10.heap.size X10 W12 := by rw [eW12]; exact drew_below X10
  obtain ⟨W13, eW13⟩ : ∃ W13, W13 = W12.alloc (.cells #[.string nm, Value.slice none 0 0, .slice ba bn bc] 43) := ⟨_, rfl⟩
  obtain ⟨b13, eb13⟩ : ∃ b13, b13 = W12.heap.size := ⟨_, rfl⟩
  obtain ⟨v14, W14, r14, hv14, x13, c13, x14, c14, hF⟩ := func_end h11 hr11 hpl hs11 (by omega) HJ.out HB.out.1 HB.out.2.1 HB.out.2.2 hb12 eW13 eb13
  rw [HR2.out] at hF
  obtain ⟨va, vn, vc, rfl⟩ := hv14
  have h12 := h11.below hb12
  obtain ⟨fa, fn, fc, hve⟩ : ∃ fa fn fc, m.vf = .slice fa fn fc := by
   obtain ⟨a, c, e⟩ := HJ.out.own.fs.shape
   exact ⟨_, _, _, e⟩
  have c12 := h12.st.q.2.1.1
  rw [hve] at c12 c13 c14 r14
  have HS := hide (And.intro c12 (And.intro (h12.bx 0 _ rfl).1 (And.intro (h12.bx 1 _ rfl).1 (h12.bx 2 _ rfl).1)))
  have HS7 := hide (And.intro c13 (And.intro (x13 0 _ rfl).1 (And.intro (x13 1 _ rfl).1 (x13 2 _ rfl).1)))
  have HS8 := hide (And.intro c14.1 (And.intro (x14 0 _ rfl).1 (And.intro (x14 1 _ rfl).1 (x14 2 _ rfl).1)))
  have HC8 := hide c14
  have HR8 := hide r14
  have HW12 := hide eW12
  have HW13 := hide eW13
  have HB13 := hide eb13
  have HF := hide hF
  clear eW12 eW13 eb13 r14 x13 c13 x14 c14 hF h12 c12 hb12 h11 hr11 hs11 hpl hve hm9
  refine wp_region_E 12 (fun X => X.cell? ⟨C.P, 7, none⟩ = some (.slice fa fn fc) ∧ X.cell? ⟨M, 0, none⟩ = some (.string nm) ∧ X.cell? ⟨M, 1, none⟩ = some (Value.slice none 0 0) ∧ X.cell? ⟨M, 2, none⟩ = some (.slice ba bn bc)) (by kernel_rfl) ?_
  rw [← HW12.out]
  refine tk 0 [9, 10, 11, 12] HS.out ?_
  refine tk 1 [2, 3, 4, 5, 8, 12] HS.out ?_
  refine tk 2 [3, 4, 5, 8, 12] HS.out ?_
  refine tk 3 [4, 5, 8, 12] HS.out ?_
  refine tk 4 [5, 8, 12] HS.out ?_
  refine tk 5 [8, 12] HS.out ?_
  refine tk 6 [7, 8, 12] HS.out ?_
  clear HS
  refine wpAnyE_one (i := 7) (by kernel_rfl) rfl (fun K hK => ?_)
  go_simp
  rw [← HW13.out, ← HB13.out]
  refine hK.out _ _ (fun _ => HS7.out) ?_
  clear hK K
  try simp only [Act.put, tA, tB, tC]
  refine wpAnyE_one (i := 8) (by kernel_rfl) rfl (fun K hK => ?_)
  refine step_appR rfl (.tmp 44) (.tmp 46) 24 rfl (.slice fa fn fc) (.slice (some ⟨b13, 0, none⟩) 1 1) (.slice va vn vc) W14 rfl rfl HR8.out ?_
  refine hK.out _ _ (fun _ => HS8.out) ?_
  clear hK K HS7
  try simp only [Act.put, tA, tB, tC]
  refine tk 9 [10, 11, 12] HS8.out ?_
  refine tk 10 [11, 12] HS8.out ?_
  refine tk 11 [12] HS8.out ?_
  clear HS8
  have c80 := HC8.out.1
  have c81 := HC8.out.2
  refine wpAnyE_one (i := 12) (by kernel_rfl) rfl (fun K hK => ?_)
  go_simp
  refine hK.out _ _ (fun h => absurd rfl h) ?_
  clear hK K
  refine wpAnyE_done (by kernel_rfl) ?_ _
  go_wp2_with fail
  refine bodyPost_ret (results_none rfl _ _ _) rfl ?_
  exact HF.out
 ·have hi : isS (tokT C.l) [41] z0 = false := by
   rcases hor with h | h
   ·exact absurd rfl h
   ·exact h
  refine hse.out.mono ?_
  rintro e w3 ⟨rfl, hw⟩
  rw [hw, hi]
  clear hw hse hor hi w3
  go_wp2_with fail
  obtain ⟨xm, y, hhd⟩ : ∃ xm y, hdS (tokT C.l) z0 = (xm, y) := ⟨_, _, rfl⟩
  have HPq : Hid (∀ W, RSt C m W z0 → Calls Tryz.prog 129 #[.pointer (some ⟨C.P, 0, none⟩)] W (Go1 C m W y (.string xm))) := fun W h => by
   have := HPm.out W z0 h
   rw [hhd] at this
   exact this
  rw [hhd] at hcs
  dsimp only at hcs
  have HDy : Hid (Dm (tokT C.l) y s2) := by
   rcases hcs with ⟨-, -, e⟩ | ⟨hq, -⟩
   ·rw [← e]; exact (dm_cl _ _).trans HDb.out
   ·exact Dm.no (is_nd hq).1
  have HLo : Hid (([] : List ByteArray).length ≤ 2000000) := Nat.zero_le _
  have HCs : Hid ((isS (tokT C.l) [44] y = false ∧ ps = [] ++ [xm] ∧ s1 = y) ∨ (isS (tokT C.l) [44] y = true ∧ Pa (tokT C.l) n (.pl ([] ++ [xm])) y.ad (.p ps) s1)) := by
   rcases hcs with h | ⟨hq, k, e, h⟩
   ·exact .inl h
   ·exact .inr ⟨hq, h.ups (by omega)⟩
  clear hcs hhd HPp h0
  obtain ⟨W5, eW5⟩ : ∃ W5, W5 = w2.drew := ⟨_, rfl⟩
  have hb5 : Below w2.heap.size w2 W5 := by rw [eW5]; exact drew_below w2
  have hF5 := h2.below hb5
  have HC := hide (HPq.out W5 hF5.bi.st)
  have HS := hide (hF5.bi.q (j := 1) rfl).1
  have HF5 := hide hF5
  have HW5 := hide eW5
  clear eW5 hb5 hF5 h2
  go_upto_region 3 with fail
  refine wp_region_E 7 (fun X => X.cell? ⟨M, 1, none⟩ = some (Value.slice none 0 0)) (by kernel_rfl) ?_
  rw [← HW5.out]
  refine tk 0 [1, 5, 7] HS.out ?_
  refine tk 1 [5, 7] HS.out ?_
  refine tk 2 [3, 4, 5, 7] HS.out ?_
  clear HS
  refine wpAnyE_one (i := 3) (by kernel_rfl) rfl (fun K hK => ?_)
  go_simp
  refine HC.out.mono (fun e w6 hg => ?_)
  rcases hg.symm with hd | ⟨-, rfl, z6, t6⟩
  ·have HF : Hid (PgI C B w (addT t (.inr ⟨nm, ps, b⟩)) s2 e w6) := .inr (hd.later (HDy.out) HF5.out.bb)
   obtain ⟨-, rfl, -⟩ := hd
   unfold flt at *
   go_wp2_with fail
   exact ⟨rfl, HF.out⟩
  have hF6 := HF5.out.go z6 t6
  clear z6 t6 HC HF5
  obtain ⟨W7, eW7⟩ : ∃ W7, W7 = w6.alloc (.cells #[.string xm] 9) := ⟨_, rfl⟩
  obtain ⟨b7, eb7⟩ : ∃ b7, b7 = w6.heap.size := ⟨_, rfl⟩
  obtain ⟨ua, un, uc, w8, r8, c7, c8, hF8⟩ := hF6.app xm HLo.out eW7 eb7
  have c6 := (hF6.bi.q (j := 1) rfl).1
  refine hK.out _ _ (fun _ => c6) ?_
  clear hK K
  try simp only [Act.put, tA, tB, tC]
  have HW7 := hide eW7
  have HB7 := hide eb7
  have HR8 := hide r8
  have HF8 := hide hF8
  have HC7 := hide c7
  have HC8 := hide c8
  clear eW7 eb7 r8 hF8 hF6 c6 c7 c8
  refine wpAnyE_one (i := 4) (by kernel_rfl) rfl (fun K hK => ?_)
  go_simp
  rw [← HW7.out, ← HB7.out]
  refine hK.out _ _ (fun _ => HC7.out) ?_
  clear hK K
  try simp only [Act.put, tA, tB, tC]
  refine wpAnyE_one (i := 5) (by kernel_rfl) rfl (fun K hK => ?_)
  refine step_appR rfl (.tmp 15) (.tmp 18) 40 rfl (Value.slice none 0 0) (.slice (some ⟨b7, 0, none⟩) 1 1) (.slice ua un uc) w8 rfl rfl HR8.out ?_
  refine hK.out _ _ (fun _ => HC8.out.1) ?_
  clear hK K HC7
  try simp only [Act.put, tA, tB, tC]
  refine tk 6 [7] HC8.out.1 ?_
  have c80 := HC8.out.1
  have c81 := HC8.out.2
  refine wpAnyE_one (i := 7) (by kernel_rfl) rfl (fun K hK => ?_)
  go_simp
  refine hK.out _ _ (fun h => absurd rfl h) ?_
  clear hK K
  refine wpAnyE_done (by kernel_rfl) ?_ _
  clear c80 c81 HC8 HR8 HW7 HB7
  have HRl : Hid (∃ (o : List ByteArray) (pa : Option Addr) (pn pc : Nat) (y : PS), o ≠ [] ∧ ((isS (tokT C.l) [44] y = false ∧ ps = o ∧ s1 = y) ∨ (isS (tokT C.l) [44] y = true ∧ Pa (tokT C.l) n (.pl o) y.ad (.p ps) s1)) ∧ FuB C m w M nm (.slice pa pn pc) o (w8.setCell ⟨M, 1, none⟩ (.slice ua un uc)) y) := ⟨_, ua, un, uc, y, by simp, HCs.out, HF8.out⟩
  clear HF8 HCs HDy HPq HLo
  go_wp2_with fail
  go_loopg [] n (fun gk wr => ∃ (o : List ByteArray) (pa : Option Addr) (pn pc : Nat) (y : PS), o ≠ [] ∧ ((isS (tokT C.l) [44] y = false ∧ ps = o ∧ s1 = y) ∨ (isS (tokT C.l) [44] y = true ∧ Pa (tokT C.l) gk (.pl o) y.ad (.p ps) s1)) ∧ FuB C m w M nm (.slice pa pn pc) o wr y)
  case atStart => exact HRl.out
  case round =>
   clear HRl
   obtain ⟨o, pa, pn, pc, y, hon, hcs, hF⟩ := hrel
   have HS2 := hide (HSk.out _ _ hF.bi.st)
   have HFe := hide hF
   clear hF
   go_wp2_with fail
   refine (HS2.out).mono (fun e w3 hg => ?_)
   rcases hcs with ⟨hi, rfl, rfl⟩ | ⟨hi, hp⟩
   ·rcases hg with ⟨-, rfl, hw⟩ | ⟨hi2, -⟩
    ·have hF3 := HFe.out
     rw [← hw] at hF3
     clear HFe HS2 hw
     go_wp2_with fail
     refine (HLe.out _ _ hF3.bi.st HOp.out).mono (fun e w9 hg => ?_)
     rcases hg.symm with hd | ⟨-, rfl, z2, t2⟩
     ·have HF : Hid (PgI C B w (addT t (.inr ⟨nm, ps, b⟩)) s2 e w9) := .inr (hd.later (HDb.out) hF3.bb)
      obtain ⟨-, rfl, -⟩ := hd
      unfold flt at *
      go_wp2_with fail
      exact ⟨rfl, HF.out⟩
     have h9 := hF3.go z2 t2
     clear z2 t2
     have m2 := (h9.bi.q (j := 2) rfl)
     have HC9 := hide (HBk.out w9 h9.bi.st)
     go_wp2_with fail
     refine HC9.out.mono (fun e w10 hg => ?_)
     rcases hg.symm with hd | ⟨-, ub, R2, rfl, hR2, hsb⟩
     ·have HF : Hid (PgI C B w (addT t (.inr ⟨nm, ps, b⟩)) s2 e w10) := .inr (hd.later (Dm.refl _) h9.bb)
      obtain ⟨-, rfl, -⟩ := hd
      unfold flt at *
      go_wp2_with fail
      exact ⟨rfl, HF.out⟩
     have t10 : Tcs (fun k => k = C.P) w9 w10 := hsb.t.mono fun k hk => by
      rcases hk with hk | hk
      ·exact hk
      ·simp [Value.ownBlock] at hk
     have h10 := h9.go hsb.st t10
     obtain ⟨ba, bc, hbe, -⟩ := own_shape hsb.row.row
     obtain ⟨bn, hbn⟩ : ∃ bn, bn = ([] ++ R2).length := ⟨_, rfl⟩
     rw [← hbn] at hbe
     subst hbe
     obtain ⟨X10, eX10⟩ : ∃ X10, X10 = w10.setCell ⟨M, 2, none⟩ (.slice ba bn bc) := ⟨_, rfl⟩
     obtain ⟨h11, t11⟩ := h10.bi.put 2 (.slice ba bn bc) eX10
     have h11 : BI C m w M [.string nm, Value.slice pa pn pc, .slice ba bn bc] X10 s2 := h11
     have hm9 := h9.bi.m
     have hr11 : PRow (M + 1) X10 (Value.slice pa pn pc) ps := own_tcs h10.row t11 (fun k hk => by omega)
     have hs11 : StRow w9.heap.size X10 (.slice ba bn bc) ([] ++ R2) := hsb.row.tcs t11 (fun g hg e => by have := (World.ownsRow.lt hsb.row.row g hg).1; omega) (fun g hg e => by have := (hsb.row.rng g hg).1; omega)
     have hpl : ∀ g, (Value.slice pa pn pc).ownBlock = some g → g < w9.heap.size := fun g hg => (World.ownsRow.lt h9.row g hg).2
     have m10 := h10.bi.q (j := 2) rfl
     have HX10 := hide eX10
     have HR2 : Hid (([] ++ R2 : List SV).map SV.s = b) := hR2
     clear eX10 h9 h10 t10 t11 hsb hbn hR2 HC9
     go_upto_region 8 with fail
     rw [← HX10.out]
     clear m10 m2
     obtain ⟨W12, eW12⟩ : ∃ W12, W12 = X10.drew := ⟨_, rfl⟩
     have hb12 : Below X10.heap.size X10 W12 := by rw [eW12]; exact drew_below X10
     obtain ⟨W13, eW13⟩ : ∃ W13, W13 = W12.alloc (.cells #[.string nm, Value.slice pa pn pc, .slice ba bn bc] 43) := ⟨_, rfl⟩
     obtain ⟨b13, eb13⟩ : ∃ b13, b13 = W12.heap.size := ⟨_, rfl⟩
     obtain ⟨v14, W14, r14, hv14, x13, c13, x14, c14, hF⟩ := func_end h11 hr11 hpl hs11 (by omega) HJ.out HB.out.1 HB.out.2.1 HB.out.2.2 hb12 eW13 eb13
     rw [HR2.out] at hF
     obtain ⟨va, vn, vc, rfl⟩ := hv14
     have h12 := h11.below hb12
     obtain ⟨fa, fn, fc, hve⟩ : ∃ fa fn fc, m.vf = .slice fa fn fc := by
      obtain ⟨a, c, e⟩ := HJ.out.own.fs.shape
      exact ⟨_, _, _, e⟩
     have c12 := h12.st.q.2.1.1
     rw [hve] at c12 c13 c14 r14
     have HS := hide (And.intro c12 (And.intro (h12.bx 0 _ rfl).1 (And.intro (h12.bx 1 _ rfl).1 (h12.bx 2 _ rfl).1)))
     have HS7 := hide (And.intro c13 (And.intro (x13 0 _ rfl).1 (And.intro (x13 1 _ rfl).1 (x13 2 _ rfl).1)))
     have HS8 := hide (And.intro c14.1 (And.intro (x14 0 _ rfl).1 (And.intro (x14 1 _ rfl).1 (x14 2 _ rfl).1)))
     have HC8 := hide c14
     have HR8 := hide r14
     have HW12 := hide eW12
     have HW13 := hide eW13
     have HB13 := hide eb13
     have HF := hide hF
     clear eW12 eW13 eb13 r14 x13 c13 x14 c14 hF h12 c12 hb12 h11 hr11 hs11 hpl hve hm9
     refine wp_region_E 12 (fun X => X.cell? ⟨C.P, 7, none⟩ = some (.slice fa fn fc) ∧ X.cell? ⟨M, 0, none⟩ = some (.string nm) ∧ X.cell? ⟨M, 1, none⟩ = some (Value.slice pa pn pc) ∧ X.cell? ⟨M, 2, none⟩ = some (.slice ba bn bc)) (by kernel_rfl) ?_
     rw [← HW12.out]
     refine tk 0 [9, 10, 11, 12] HS.out ?_
     refine tk 1 [2, 3, 4, 5, 8, 12] HS.out ?_
     refine tk 2 [3, 4, 5, 8, 12] HS.out ?_
     refine tk 3 [4, 5, 8, 12] HS.out ?_
     refine tk 4 [5, 8, 12] HS.out ?_
     refine tk 5 [8, 12] HS.out ?_
     refine tk 6 [7, 8, 12] HS.out ?_
     clear HS
     refine wpAnyE_one (i := 7) (by kernel_rfl) rfl (fun K hK => ?_)
     go_simp
     rw [← HW13.out, ← HB13.out]
     refine hK.out _ _ (fun _ => HS7.out) ?_
     clear hK K
     try simp only [Act.put, tA, tB, tC]
     refine wpAnyE_one (i := 8) (by kernel_rfl) rfl (fun K hK => ?_)
     refine step_appR rfl (.tmp 44) (.tmp 46) 24 rfl (.slice fa fn fc) (.slice (some ⟨b13, 0, none⟩) 1 1) (.slice va vn vc) W14 rfl rfl HR8.out ?_
     refine hK.out _ _ (fun _ => HS8.out) ?_
     clear hK K HS7
     try simp only [Act.put, tA, tB, tC]
     refine tk 9 [10, 11, 12] HS8.out ?_
     refine tk 10 [11, 12] HS8.out ?_
     refine tk 11 [12] HS8.out ?_
     clear HS8
     have c80 := HC8.out.1
     have c81 := HC8.out.2
     refine wpAnyE_one (i := 12) (by kernel_rfl) rfl (fun K hK => ?_)
     go_simp
     refine hK.out _ _ (fun h => absurd rfl h) ?_
     clear hK K
     refine wpAnyE_done (by kernel_rfl) ?_ _
     go_wp2_with fail
     refine bodyPost_ret (results_none rfl _ _ _) rfl ?_
     exact HF.out
    ·rw [hi] at hi2; cases hi2
   ·rcases hg with ⟨hi2, -⟩ | ⟨-, hg⟩
    ·rw [hi] at hi2; cases hi2
    ·have HPd := hide hp.dm
     rcases hg.symm with hd | ⟨-, rfl, z3, t3⟩
     ·have HF : Hid (PgI C B w (addT t (.inr ⟨nm, ps, b⟩)) s2 e w3) := .inr (hd.later ((HPd.out.trans (dm_cl _ _)).trans HDb.out) HFe.out.bb)
      obtain ⟨-, rfl, -⟩ := hd
      unfold flt at *
      go_wp2_with fail
      exact ⟨rfl, HF.out⟩
     have hF3 := HFe.out.go z3 t3
     have hlo : o.length ≤ 2000000 := Nat.le_trans hp.acc (Nat.le_trans HSz.out (by omega))
     cases gk with
     | zero => cases hp using Pa_i
     | succ g =>
     rcases pl_inv hp with ⟨h0, -⟩ | ⟨-, h0, -⟩ | ⟨-, -, hcs⟩
     ·exact absurd (al_er hF3.bi.st.al) h0
     ·exact absurd h0 hon
     obtain ⟨xm, y2, hhd⟩ : ∃ xm y2, hdS (tokT C.l) y.ad = (xm, y2) := ⟨_, _, rfl⟩
     have HPq : Hid (∀ W, RSt C m W y.ad → Calls Tryz.prog 129 #[.pointer (some ⟨C.P, 0, none⟩)] W (Go1 C m W y2 (.string xm))) := fun W h => by
      have := HPm.out W y.ad h
      rw [hhd] at this
      exact this
     rw [hhd] at hcs
     dsimp only at hcs
     have HDy : Hid (Dm (tokT C.l) y2 s2) := by
      rcases hcs with ⟨-, -, e⟩ | ⟨hq, -⟩
      ·rw [← e]; exact (dm_cl _ _).trans HDb.out
      ·exact Dm.no (is_nd hq).1
     have HLo := hide hlo
     have HCs : Hid ((isS (tokT C.l) [44] y2 = false ∧ ps = o ++ [xm] ∧ s1 = y2) ∨ (isS (tokT C.l) [44] y2 = true ∧ Pa (tokT C.l) g (.pl (o ++ [xm])) y2.ad (.p ps) s1)) := by
      rcases hcs with h | ⟨hq, k, e, h⟩
      ·exact .inl h
      ·exact .inr ⟨hq, by have e : g = k := by omega
                          rw [e]; exact h⟩
     clear hcs hhd hp z3 t3 hlo HS2 HFe HPd hi
     obtain ⟨W5, eW5⟩ : ∃ W5, W5 = w3.drew := ⟨_, rfl⟩
     have hb5 : Below w3.heap.size w3 W5 := by rw [eW5]; exact drew_below w3
     have hF5 := hF3.below hb5
     have HC := hide (HPq.out W5 hF5.bi.st)
     have HS := hide (hF5.bi.q (j := 1) rfl).1
     have HF5 := hide hF5
     have HW5 := hide eW5
     clear eW5 hb5 hF5 hF3
     go_upto_region 5 with fail
     refine wp_region_E 7 (fun X => X.cell? ⟨M, 1, none⟩ = some (Value.slice pa pn pc)) (by kernel_rfl) ?_
     rw [← HW5.out]
     refine tk 0 [1, 5, 7] HS.out ?_
     refine tk 1 [5, 7] HS.out ?_
     refine tk 2 [3, 4, 5, 7] HS.out ?_
     clear HS
     refine wpAnyE_one (i := 3) (by kernel_rfl) rfl (fun K hK => ?_)
     go_simp
     refine HC.out.mono (fun e w6 hg => ?_)
     rcases hg.symm with hd | ⟨-, rfl, z6, t6⟩
     ·have HF : Hid (PgI C B w (addT t (.inr ⟨nm, ps, b⟩)) s2 e w6) := .inr (hd.later (HDy.out) HF5.out.bb)
      obtain ⟨-, rfl, -⟩ := hd
      unfold flt at *
      go_wp2_with fail
      exact ⟨rfl, HF.out⟩
     have hF6 := HF5.out.go z6 t6
     clear z6 t6 HC HF5
     obtain ⟨W7, eW7⟩ : ∃ W7, W7 = w6.alloc (.cells #[.string xm] 9) := ⟨_, rfl⟩
     obtain ⟨b7, eb7⟩ : ∃ b7, b7 = w6.heap.size := ⟨_, rfl⟩
     obtain ⟨ua, un, uc, w8, r8, c7, c8, hF8⟩ := hF6.app xm HLo.out eW7 eb7
     have c6 := (hF6.bi.q (j := 1) rfl).1
     refine hK.out _ _ (fun _ => c6) ?_
     clear hK K
     try simp only [Act.put, tA, tB, tC]
     have HW7 := hide eW7
     have HB7 := hide eb7
     have HR8 := hide r8
     have HF8 := hide hF8
     have HC7 := hide c7
     have HC8 := hide c8
     clear eW7 eb7 r8 hF8 hF6 c6 c7 c8
     refine wpAnyE_one (i := 4) (by kernel_rfl) rfl (fun K hK => ?_)
     go_simp
     rw [← HW7.out, ← HB7.out]
     refine hK.out _ _ (fun _ => HC7.out) ?_
     clear hK K
     try simp only [Act.put, tA, tB, tC]
     refine wpAnyE_one (i := 5) (by kernel_rfl) rfl (fun K hK => ?_)
     refine step_appR rfl (.tmp 26) (.tmp 29) 40 rfl (Value.slice pa pn pc) (.slice (some ⟨b7, 0, none⟩) 1 1) (.slice ua un uc) w8 rfl rfl HR8.out ?_
     refine hK.out _ _ (fun _ => HC8.out.1) ?_
     clear hK K HC7
     try simp only [Act.put, tA, tB, tC]
     refine tk 6 [7] HC8.out.1 ?_
     have c80 := HC8.out.1
     have c81 := HC8.out.2
     refine wpAnyE_one (i := 7) (by kernel_rfl) rfl (fun K hK => ?_)
     go_simp
     refine hK.out _ _ (fun h => absurd rfl h) ?_
     clear hK K
     refine wpAnyE_done (by kernel_rfl) ?_ _
     clear c80 c81 HC8 HR8 HW7 HB7
     have HRl : Hid (∃ (o : List ByteArray) (pa : Option Addr) (pn pc : Nat) (y : PS), o ≠ [] ∧ ((isS (tokT C.l) [44] y = false ∧ ps = o ∧ s1 = y) ∨ (isS (tokT C.l) [44] y = true ∧ Pa (tokT C.l) g (.pl o) y.ad (.p ps) s1)) ∧ FuB C m w M nm (.slice pa pn pc) o (w8.setCell ⟨M, 1, none⟩ (.slice ua un uc)) y) := ⟨_, ua, un, uc, y2, by simp, HCs.out, HF8.out⟩
     clear HF8 HCs HDy HPq HLo
     go_wp2_with fail
     go_roundg g
     case measure => omega
     case rel => exact HRl.out
end
section
open Go.RowKit
theorem Tp.dm2 {T : Nat → To} {n : Nat} {s : PS} {x : Gl ⊕ Fu} {s' : PS} (h : Tp T n s x s') : Dm T (hdS T s).2 s' := by
 cases h using Tp_i with
 | fn ps s1 b _ h1 h2 h3 => exact ((dm_on _ _).trans h2.dm).trans ((dm_cl _ _).trans h3.dm)
 | ga h1 h2 => exact (((dm_on _ _).trans (dm_nu _)).trans (dm_cl _ _)).trans (dm_ta _ _)
 | gv h1 h2 => exact dm_ta _ _
theorem topI_any {C : RC} (HN : NxI C) {n : Nat} (hn : n ≤ 1000000) {m : TV} {w : World} {z : PS} {B : Nat} {t : Tr} {x : Gl ⊕ Fu} {s' : PS} (hx : Tp (tokT C.l) n z x s') (hS : RSt C m w (hdS (tokT C.l) z).2) (hT : TrI B w m t) (hPB : C.P + 1 < B) (hB : B ≤ w.heap.size) (hl : t.globals.length ≤ 100000 ∧ t.funcs.length ≤ 100000) (hsz : ∀ f, x = .inr f → f.params.length ≤ 1000000 ∧ szS f.body ≤ 1000000) :
  (isS (tokT C.l) [40] (hdS (tokT C.l) z).2 = true ∧ Calls Tryz.prog 95 #[.pointer (some ⟨C.P, 0, none⟩), .string (hdS (tokT C.l) z).1] w (PgI C B w (addT t x) s')) ∨
  (isS (tokT C.l) [40] (hdS (tokT C.l) z).2 = false ∧ Calls Tryz.prog 96 #[.pointer (some ⟨C.P, 0, none⟩), .string (hdS (tokT C.l) z).1] w (PgI C B w (addT t x) s')) := by
 cases hx using Tp_i with
 | fn ps s1 b _ h1 h2 h3 => exact .inl ⟨h1, funcI_any HN hn _ hS hT hPB hB hl.2 h2 h3 (hsz _ rfl)⟩
 | ga h1 h2 => exact .inr ⟨h1, globI_a HN _ hS hT hPB hB hl.1 h2⟩
 | gv h1 h2 => exact .inr ⟨h1, globI_v HN _ hS hT hPB hB hl.1 h2⟩
structure PgR (C : RC) (B : Nat) (w : World) (n gk : Nat) (t' : Tr) (s' : PS) (m : TV) (t0 : Tr) (z : PS) (wr : World) : Prop where
 pg : PgL (tokT C.l) n gk z t0 t' s'
 st : RSt C m wr z
 tr : TrI B wr m t0
 t : Tcs (fun k => k = C.P ∨ B ≤ k) w wr
 pb : C.P + 1 < B
 b : B ≤ w.heap.size
theorem PgR.bb {C : RC} {B : Nat} {w : World} {n gk : Nat} {t' : Tr} {s' : PS} {m : TV} {t0 : Tr} {z : PS} {wr : World} (h : PgR C B w n gk t' s' m t0 z wr) : Kp C w wr := tcs_b0 h.t (fun k hk => by have := h.st.ok.hi; have := h.pb; omega) (by have := h.st.ok.hi; have := h.pb; have := h.b; omega)
theorem PgR.bt {C : RC} {B : Nat} {w : World} {n gk : Nat} {t' : Tr} {s' : PS} {m : TV} {t0 : Tr} {z : PS} {wr W : World} (h : PgR C B w n gk t' s' m t0 z wr) (ht : Tcs (fun k => k = C.P) wr W) : Kp C w W := h.bb.trans (h.st.tb ht)
set_option maxRecDepth 100000 in
set_option maxHeartbeats 4000000 in
theorem progI_any {C : RC} (HN : NxI C) {n : Nat} (hn : n ≤ 1000000) {m : TV} {w : World} {s : PS} {B k : Nat} {t t' : Tr} {s' : PS} (hp : PgL (tokT C.l) n k s t t' s') (hsm : smT C.K 0 t') (hK : C.K ≤ 20000) (hS : RSt C m w s) (hT : TrI B w m t) (hPB : C.P + 1 < B) (hB : B ≤ w.heap.size) :
  Calls Tryz.prog 59 #[.pointer (some ⟨C.P, 0, none⟩)] w (PgI C B w t' s') := by
 have HRl : Hid (∃ (m : TV) (t0 : Tr) (z : PS), PgR C B w n k t' s' m t0 z w) := ⟨m, t, s, hp, hS, hT, Tcs.refl _ _, hPB, hB⟩
 have HSm := hide (And.intro hsm hK)
 have HNx := hide HN
 have HEx : Hid (∀ m W z, RSt C m W z → Calls Tryz.prog 92 #[.pointer (some ⟨C.P, 0, none⟩), .string (tx [105, 110, 116])] W (Go1 C m W (taS (tokT C.l) [105, 110, 116] z) (.tuple #[]))) := fun m W z h => expect_any HN h [105, 110, 116] (by decide)
 have HNa : Hid (∀ m W z, RSt C m W (taS (tokT C.l) [105, 110, 116] z) → Calls Tryz.prog 93 #[.pointer (some ⟨C.P, 0, none⟩)] W (Go1 C m W (hdS (tokT C.l) z).2 (.string (hdS (tokT C.l) z).1))) := fun m W z h => nameI_any HN h
 have HSe : Hid (∀ m W z, RSt C m W z → Calls Tryz.prog 94 #[.pointer (some ⟨C.P, 0, none⟩), .string (tx [40])] W fun e w' => e = .returned (.bool (isS (tokT C.l) [40] z)) ∧ w' = W) := fun m W z h => sees_any h [40] (by decide)
 clear hp hS hT hPB hB hsm hK HN
 go_enter Tryz.func59, Tryz.ntmps59
 go_wp2_with fail
 go_loopg [] k (fun gk wr => ∃ (m : TV) (t0 : Tr) (z : PS), PgR C B w n gk t' s' m t0 z wr)
 case atStart => exact HRl.out
 case round =>
  clear HRl
  obtain ⟨m, t0, z, h⟩ := hrel
  obtain ⟨tt, vl, hbx, -⟩ := h.st.bx
  have p2 : wr.cell? ⟨C.P, 2, none⟩ = some (.int .i64 (kiI (tokT C.l z.i))) := (hbx.box 2 _ rfl).1
  have hki := ki_end (t := tokT C.l z.i) (tokT_kind C.l z.i).1
  clear hbx tt vl
  by_cases h4 : (tokT C.l z.i).kind = 4
  ·obtain ⟨rfl, rfl⟩ := h.pg.end' (.inr h4)
   rw [hki.2 h4] at p2
   have HF : Hid (PgI C B w t' s' (.returned (.tuple #[])) wr) := .inl ⟨h.st.al, m, rfl, h.st, h.tr, h.t⟩
   clear h hki h4
   go_wp2_with fail
   refine bodyPost_ret (results_none rfl _ _ _) rfl ?_
   exact HF.out
  ·have hne : ¬ kiI (tokT C.l z.i) = 0 := fun e => h4 (hki.1 e)
   have hnb : (kiI (tokT C.l z.i) != 0) = true := by simpa using hne
   obtain ⟨g, x, s1, rfl, hx, hp1⟩ := h.pg.more' (al_er h.st.al) h4
   obtain ⟨hsz1, hsz2⟩ := hp1.sizes HSm.out.1 HSm.out.2
   have HD1 : Hid (Dm (tokT C.l) s1 s') := hp1.pg.dm
   have HD2 : Hid (Dm (tokT C.l) (hdS (tokT C.l) z).2 s') := hx.dm2.trans hp1.pg.dm
   have HD3 : Hid (Dm (tokT C.l) (taS (tokT C.l) [105, 110, 116] z) s') := (dm_na _).trans HD2.out
   have HTp : Hid (∀ W, RSt C m W (hdS (tokT C.l) z).2 → Tcs (fun k => k = C.P) wr W → (isS (tokT C.l) [40] (hdS (tokT C.l) z).2 = true ∧ Calls Tryz.prog 95 #[.pointer (some ⟨C.P, 0, none⟩), .string (hdS (tokT C.l) z).1] W (PgI C B W (addT t0 x) s1)) ∨ (isS (tokT C.l) [40] (hdS (tokT C.l) z).2 = false ∧ Calls Tryz.prog 96 #[.pointer (some ⟨C.P, 0, none⟩), .string (hdS (tokT C.l) z).1] W (PgI C B W (addT t0 x) s1))) := fun W hW ht => topI_any HNx.out hn hx hW (h.tr.tcs ht (fun k hk => by rw [hk]; have := h.pb; omega)) h.pb (Nat.le_trans h.b (Nat.le_trans h.t.size ht.size)) hsz2 hsz1
   have HCe := hide (HEx.out m wr z h.st)
   have HCn : Hid (∀ W, RSt C m W (taS (tokT C.l) [105, 110, 116] z) → Calls Tryz.prog 93 #[.pointer (some ⟨C.P, 0, none⟩)] W (Go1 C m W (hdS (tokT C.l) z).2 (.string (hdS (tokT C.l) z).1))) := fun W hW => HNa.out m W z hW
   have HH := hide h
   have HP1 := hide hp1
   generalize hdS (tokT C.l) z = hz at *
   obtain ⟨nm, y⟩ := hz
   dsimp only at *
   generalize taS (tokT C.l) [105, 110, 116] z = z1 at *
   generalize kiI (tokT C.l z.i) = ki at *
   clear h hp1 hx hsz1 hsz2 hki h4
   go_wp2_with fail
   refine HCe.out.mono (fun e w2 hg => ?_)
   rcases hg.symm with hd | ⟨-, rfl, z2, t2⟩
   ·have HF : Hid (PgI C B w t' s' e w2) := .inr (hd.later (HD3.out) (HH.out.bb))
    obtain ⟨-, rfl, -⟩ := hd
    unfold flt at *
    go_wp2_with fail
    exact ⟨rfl, HF.out⟩
   have HC2 := hide (HCn.out w2 z2)
   have HT2 := hide t2
   clear z2 t2 HCe p2
   go_wp2_with fail
   refine HC2.out.mono (fun e w3 hg => ?_)
   rcases hg.symm with hd | ⟨-, rfl, z3, t3⟩
   ·have HF : Hid (PgI C B w t' s' e w3) := .inr (hd.later (HD2.out) (HH.out.bt HT2.out))
    obtain ⟨-, rfl, -⟩ := hd
    unfold flt at *
    go_wp2_with fail
    exact ⟨rfl, HF.out⟩
   have ht3 := HT2.out.trans t3
   have HT3 := hide ht3
   have HC3 := hide (HSe.out m w3 y z3)
   have hcs := HTp.out w3 z3 ht3
   clear z3 t3 HC2 HT2 ht3 HTp
   go_wp2_with fail
   refine HC3.out.mono ?_
   rintro e w4 ⟨rfl, hw⟩
   rw [hw]
   clear hw HC3
   rcases hcs with ⟨hi, hc⟩ | ⟨hi, hc⟩
   ·rw [hi]
    have HC := hide hc
    clear hc hi
    go_wp2_with fail
    refine HC.out.mono (fun e w5 hg => ?_)
    rcases hg.symm with hd | ⟨-, m', rfl, st5, tr5, t5⟩
    ·have HF : Hid (PgI C B w t' s' e w5) := .inr (hd.later (HD1.out) (HH.out.bt HT3.out))
     obtain ⟨-, rfl, -⟩ := hd
     unfold flt at *
     go_wp2_with fail
     exact ⟨rfl, HF.out⟩
    have HR5 : Hid (∃ (m : TV) (t0 : Tr) (z : PS), PgR C B w n g t' s' m t0 z w5) := ⟨m', _, s1, HP1.out, st5, tr5, (HH.out.t.trans (HT3.out.mono fun k hk => .inl hk)).trans t5, HH.out.pb, HH.out.b⟩
    clear st5 tr5 t5
    go_wp2_with fail
    go_roundg g
    case measure => omega
    case rel => exact HR5.out
   ·rw [hi]
    have HC := hide hc
    clear hc hi
    go_wp2_with fail
    refine HC.out.mono (fun e w5 hg => ?_)
    rcases hg.symm with hd | ⟨-, m', rfl, st5, tr5, t5⟩
    ·have HF : Hid (PgI C B w t' s' e w5) := .inr (hd.later (HD1.out) (HH.out.bt HT3.out))
     obtain ⟨-, rfl, -⟩ := hd
     unfold flt at *
     go_wp2_with fail
     exact ⟨rfl, HF.out⟩
    have HR5 : Hid (∃ (m : TV) (t0 : Tr) (z : PS), PgR C B w n g t' s' m t0 z w5) := ⟨m', _, s1, HP1.out, st5, tr5, (HH.out.t.trans (HT3.out.mono fun k hk => .inl hk)).trans t5, HH.out.pb, HH.out.b⟩
    clear st5 tr5 t5
    go_wp2_with fail
    go_roundg g
    case measure => omega
    case rel => exact HR5.out
end
end Go.Proofs.YtlamjfhhefcohaaGreatDoor
