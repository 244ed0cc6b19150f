import Derived.Test.YtolkpkklinoegaaDoorM47
import Derived.Deep.CutRange
import Derived.Deep.RegionHeld3
namespace Go.Proofs.YtolkpkklinoegaaDoor
set_option linter.unusedVariables false
set_option linter.unusedSimpArgs false
set_option maxRecDepth 100000
set_option maxHeartbeats 16000000
section
open Go.RowKit
theorem fr_strs_nil (w : World) : Strs w (.slice none 0 0) [] := ⟨none, 0, rfl, Nat.le_refl _, by omega, fun h => absurd h (by simp)⟩
theorem fr_ints_nil (w : World) : Ints w (.slice none 0 0) [] := ⟨none, 0, rfl, fun h => absurd h (by simp)⟩
def FoI (g : Nat) (a : Option Addr) (len cap : Nat) (B : Nat) (w5 : World) (k : Nat) (ov : Value) (wr : World) : Prop := ∃ ms, ms.length = k ∧ (∀ n ∈ ms, n.name.size ≤ 100000) ∧ NRow B wr ov ms ∧ Dr g a len cap (fun k => k = g) w5 wr
set_option maxRecDepth 100000 in
set_option maxHeartbeats 4000000 in
theorem draw_fold (a : Option Addr) (len cap : Nat) (w : World) (hl : len ≤ 1048576) (hb : B8 w a len) :
  Calls Tryd.prog 4 #[.slice a len cap] w fun e w' => ∃ u ns, e = .returned u ∧ Nodes w' u ns ∧ ns.length ≤ 20000 ∧ (∀ n ∈ ns, n.name.size ≤ 100000) ∧ Below w.heap.size w w' := by
 have HB := hide hb
 clear hb
 go_enter Tryd.func4, Tryd.ntmps4
 go_wp2_with fail
 refine (new_any a len cap w hl HB.out).mono ?_
 rintro e w1 ⟨rfl, hc1, hb1, hs1, hlo1⟩
 obtain ⟨g, hg⟩ : ∃ g, g = w.heap.size := ⟨_, rfl⟩
 rw [← hg] at hc1 hlo1 hs1 ⊢
 have HG := hide hg
 have HS1 := hide hs1
 have HB1 := hide hb1
 obtain ⟨W2, hW2⟩ : ∃ W2, W2 = w1.alloc (.cells #[.slice none 0 0, .slice none 0 0, .slice none 0 0, .slice none 0 0, .int .i64 0] 50) := ⟨_, rfl⟩
 have hb2 : Below w1.heap.size w1 W2 := by rw [hW2]; exact (Below.refl _ _).alloc (Nat.le_refl _) _
 have hbx : FrC W2 w1.heap.size [.slice none 0 0, .slice none 0 0, .slice none 0 0, .slice none 0 0, .int .i64 0] := by rw [hW2]; exact box_fr w1 _ _ (by decide)
 have hz2 : W2.heap.size = w1.heap.size + 1 := by rw [hW2, World.size_alloc]
 have HC2 := hide (hc1.below hb2)
 have HLo1 := hide hlo1
 have HLo := hide (hlo1.mono hb2.size)
 have HB2 := hide (hb1.trans (hb2.mono hb1.size))
 have HBx := hide hbx
 have HZ2 := hide hz2
 have HW2 := hide hW2
 obtain ⟨G, hG⟩ : ∃ G, G = w1.heap.size := ⟨_, rfl⟩
 rw [← hG] at HBx HZ2 HS1 HLo1
 have HGG := hide hG
 clear hg hc1 hlo1 hs1 hb1 hb2 hbx hz2 hW2
 go_upto_region 3 with fail
 rw [← HW2.out, ← hG]
 clear HW2 hG
 go_wp2_with fail
 refine (once_any g a len cap (fun k => k = g) _ _ hl rfl HC2.out (by omega)).mono ?_
 rintro e w3 ⟨b3, rfl, hd3⟩
 have hGg : G ≠ g := by have := HS1.out; omega
 have hf3 : FrC w3 G _ := HBx.out.tcs (by have := HZ2.out; omega) hd3.tcs hGg
 have HD3 := hide hd3
 have hB3 : Below w.heap.size w w3 := hd3.tcs.below HB2.out HB2.out.size (fun k hk => by have e : k = g := hk; have := HG.out; omega)
 have HB3 := hide hB3
 have hGw : G < w3.heap.size := by have := hd3.tcs.size; have := HZ2.out; omega
 have HF3 := hide hf3
 clear hd3 HBx
 go_upto_if 13 with fail
 go_cut [4] from 9 to 58 (fun p W => p = .pointer (some ⟨G, 0, none⟩) ∧ ∃ xa xn xc ss, FrC W G [.slice none 0 0, .slice none 0 0, .slice xa xn xc, .slice none 0 0, .int .i64 0] ∧ (∀ X, Tcs (fun k => k = g) W X → Strs X (.slice xa xn xc) ss) ∧ ss.length ≤ 1 ∧ (∀ x ∈ ss, x.size ≤ 100000) ∧ Cur g a len cap W ∧ Below w.heap.size w W ∧ w3.heap.size ≤ W.heap.size)
 case first =>
  cases b3
  ·go_wp2_with fail
   go_meet
   case rel => exact ⟨rfl, none, 0, 0, [], HF3.out, fun X _ => fr_strs_nil X, by simp, (fun x hx => by cases hx), HD3.out.cur, HB3.out, Nat.le_refl _⟩
  ·have y2 := (hf3 2 _ rfl).1
   have f2 := (hf3 2 _ rfl).2
   have hGw3 : ¬ G = w3.heap.size := by omega
   go_wp2_with fail
   go_meet
   case rel =>
    have hbA : Below w3.heap.size w3 (w3.alloc (.cells #[.string ⟨#[120]⟩] 9)) := (Below.refl _ _).alloc (Nat.le_refl _) _
    have hTs : Tcs (fun k => k = G) (w3.alloc (.cells #[.string ⟨#[120]⟩] 9)) ((w3.alloc (.cells #[.string ⟨#[120]⟩] 9)).setCell ⟨G, 2, none⟩ (.slice (some ⟨w3.heap.size, 0, none⟩) 1 1)) := (Tcs.refl (fun k => k = G) _).setCell (p := ⟨G, 2, none⟩) rfl _
    have hcm : (w3.setCell ⟨G, 2, none⟩ (.slice (some ⟨w3.heap.size, 0, none⟩) 1 1)).alloc (.cells #[.string ⟨#[120]⟩] 9) = (w3.alloc (.cells #[.string ⟨#[120]⟩] 9)).setCell ⟨G, 2, none⟩ (.slice (some ⟨w3.heap.size, 0, none⟩) 1 1) := (World.setCell_alloc_past _ _ _ _ (by omega)).symm
    first
    | rw [hcm]
    | skip
    refine ⟨rfl, some ⟨w3.heap.size, 0, none⟩, 1, 1, [⟨#[120]⟩], (HF3.out.below hbA).set 2 _, fun X hX => ?_, by simp, (fun x hx => by simp at hx; subst hx; decide), ?_, ?_, by simp⟩
    ·have hl := lit_fz (S := fun k => k = g ∨ k = G) (w := w3) [⟨#[120]⟩] #[.string ⟨#[120]⟩] 1 rfl rfl (by decide) (fun k hk => by have := HS1.out; rcases hk with h | h <;> omega)
     exact hl X ((hTs.mono fun k hk => .inr hk).trans (hX.mono fun k hk => .inl hk))
    ·exact (HD3.out.cur.below hbA).keep hTs (fun e => hGg e.symm) (fun b off x y e => by have := (HLo1.out.by8 b off x y).1; have e' : b = G := e; omega)
    ·exact hTs.below (HB3.out.trans (hbA.mono HB3.out.size)) (by have := HB3.out.size; simp; omega) (fun k hk => by have e : k = G := hk; have := HS1.out; have := HG.out; omega)
 case rest =>
  obtain ⟨rfl, xa, xn, xc, ss, hfr, hstr, hss, hsz, hcur, hbw, hsw⟩ := hcut
  have HGn : Hid (GnOk (fun k => k = g) wc ⟨.slice none 0 0, .slice none 0 0, .slice xa xn xc, .slice none 0 0, 0, [], [], ss, []⟩ 50) := ⟨fun X _ => fr_strs_nil X, fun X _ => fr_ints_nil X, hstr, fun X _ => fr_strs_nil X, rfl, by simp, (fun x hx => by cases hx), ⟨(fun x hx => by cases hx), hsz, (fun x hx => by cases hx)⟩, by show ss.length ≤ 50; omega, by simp, ⟨by simp, by simp⟩⟩
  have hGc : G < wc.heap.size := World.block_lt_of_cell? _ _ (hfr 0 _ rfl).1
  have HLoc : Hid (Lo g a len (fun k => k = g) wc.heap.size) := HLo1.out.mono (by omega)
  have hcells : ∀ X, Tcs (fun k => k = g) wc X → (X.cell? ⟨G, 0, none⟩ = some (.slice none 0 0) ∧ X.cell? ⟨G, 1, none⟩ = some (.slice none 0 0) ∧ X.cell? ⟨G, 2, none⟩ = some (.slice xa xn xc) ∧ X.cell? ⟨G, 3, none⟩ = some (.slice none 0 0) ∧ X.cell? ⟨G, 4, none⟩ = some (.int .i64 0)) := fun X hX => by
   have h := hfr.tcs hGc hX hGg
   exact ⟨(h 0 _ rfl).1, (h 1 _ rfl).1, (h 2 _ rfl).1, (h 3 _ rfl).1, (h 4 _ rfl).1⟩
  have hDw : Dr g a len cap (fun k => k = g) wc wc.drew := ⟨hcur.drewN 1, (Tcs.refl _ _).drew⟩
  have Hc1 : Hid (Calls Tryd.prog 13 #[.pointer (some ⟨g, 0, none⟩), .int .i64 4] wc.drew fun e w' => ∃ x : Int, e = .returned (.int .i64 x) ∧ (0 ≤ x ∧ x ≤ 3) ∧ (w'.cell? ⟨G, 0, none⟩ = some (.slice none 0 0) ∧ w'.cell? ⟨G, 1, none⟩ = some (.slice none 0 0) ∧ w'.cell? ⟨G, 2, none⟩ = some (.slice xa xn xc) ∧ w'.cell? ⟨G, 3, none⟩ = some (.slice none 0 0) ∧ w'.cell? ⟨G, 4, none⟩ = some (.int .i64 0)) ∧ Dr g a len cap (fun k => k = g) wc w') := by
   refine (below_any g a len cap (fun k => k = g) 4 wc.drew hl rfl hDw.cur (by omega)).mono ?_
   rintro e w' ⟨x, rfl, hx, hd⟩
   exact ⟨x, rfl, by omega, hcells _ (hDw.trans hd).tcs, hDw.trans hd⟩
  have Hc2 : Hid (∀ (z : Int) (X : World), 1 ≤ z ∧ z ≤ 4 → Dr g a len cap (fun k => k = g) wc X → Calls Tryd.prog 12 #[.pointer (some ⟨g, 0, none⟩), .agg #[.slice none 0 0, .slice none 0 0, .slice xa xn xc, .slice none 0 0, .int .i64 0], .int .i64 z] X fun e w' => ∃ u ns, e = .returned u ∧ NRow X.heap.size w' u ns ∧ okN ns 12441 ∧ (w'.cell? ⟨G, 0, none⟩ = some (.slice none 0 0) ∧ w'.cell? ⟨G, 1, none⟩ = some (.slice none 0 0) ∧ w'.cell? ⟨G, 2, none⟩ = some (.slice xa xn xc) ∧ w'.cell? ⟨G, 3, none⟩ = some (.slice none 0 0) ∧ w'.cell? ⟨G, 4, none⟩ = some (.int .i64 0)) ∧ Dr g a len cap (fun k => k = g) wc w') := fun z X hz hX => by
   have hd : z.toNat ≤ 5 := by omega
   refine (expr_any g a len cap (fun k => k = g) hl z.toNat hd z ⟨.slice none 0 0, .slice none 0 0, .slice xa xn xc, .slice none 0 0, 0, [], [], ss, []⟩ 50 X (by omega) (HLoc.out.mono hX.tcs.size) hX.cur (HGn.out.tcs hX.tcs) (by omega)).mono ?_
   rintro e w' ⟨u, ns, rfl, h1, h2, h3⟩
   exact ⟨u, ns, rfl, h1, h2.more (xpt_le hd).2, hcells _ (hX.trans h3).tcs, hX.trans h3⟩
  obtain ⟨y0, y1, y2, y3, y4⟩ := hcells wc.drew hDw.tcs
  have HBw := hide hbw
  clear hfr hstr hcells hDw hcur HGn hbw
  go_upto_region 5 with fail
  go_region_held3 (fun W => W.cell? ⟨G, 0, none⟩ = some (.slice none 0 0) ∧ W.cell? ⟨G, 1, none⟩ = some (.slice none 0 0) ∧ W.cell? ⟨G, 2, none⟩ = some (.slice xa xn xc) ∧ W.cell? ⟨G, 3, none⟩ = some (.slice none 0 0) ∧ W.cell? ⟨G, 4, none⟩ = some (.int .i64 0)) (go_simp)
   (first
   | ((with_reducible refine Calls.mono Hc1.out ?_); rintro e w4 ⟨x4, rfl, hx4, ⟨s0, s1, s2, s3, s4⟩, hd4⟩; have HD4 := hide hd4)
   | ((with_reducible refine Calls.mono (Hc2.out _ _ (by rw [IntKind.wrap_i64]; omega) HD4.out) ?_); rintro e w5 ⟨u, ns, rfl, hr5, hn5, ⟨v0, v1, v2, v3, v4⟩, hd5⟩; have HR5 := hide hr5; have HN5 := hide hn5; have HD5 := hide hd5))
  have hg4 : g < w4.heap.size := HD4.out.cur.lt
  clear hr5 hn5 hd5 v0 v1 v2 v3 v4 s0 s1 s2 s3 s4 y0 y1 y2 y3 y4 hd4 Hc1 Hc2 HD4
  generalize IntKind.i64.wrap (1 + x4) = y4
  clear hx4
  obtain ⟨ua, uc, hu, -⟩ := own_shape HR5.out
  subst hu
  obtain ⟨nl, hnl⟩ : ∃ nl, nl = ns.length := ⟨_, rfl⟩
  have HNl := hide hnl
  rw [← hnl] at HR5 ⊢
  have hnl2 : nl ≤ 12441 := by rw [hnl]; exact HN5.out.1
  obtain ⟨W6, hW6⟩ : ∃ W6, W6 = w5.alloc (.cells #[] 32) := ⟨_, rfl⟩
  have hb6 : Below w5.heap.size w5 W6 := by rw [hW6]; exact (Below.refl _ _).alloc (Nat.le_refl _) _
  have HI0 : Hid (FoI g a len cap w5.heap.size w5 0 (.slice (some ⟨w5.heap.size, 0, none⟩) 0 0) W6) := ⟨[], rfl, (fun n hn => by cases hn), by rw [hW6]; exact nrow_nil w5 _ (Nat.le_refl _), ⟨HD5.out.cur.below hb6, hb6.tcs⟩⟩
  have HW6 := hide hW6
  have HNs : Hid (∀ X, Tcs (fun k => k = g) w5 X → Nodes X (.slice ua nl uc) ns) := nrow_fz HR5.out (fun k hk => by have e : k = g := hk; omega)
  clear hnl hW6 hb6
  go_upto_region 7 with fail
  rw [← HW6.out]
  clear HW6
  go_wp2_with fail
  go_loopw [7, 6] (fun j ov wr => ∃ k : Nat, k ≤ nl ∧ j = .int .i64 (k : Int) ∧ (∃ oa oc, ov = .slice oa k oc) ∧ FoI g a len cap w5.heap.size w5 k ov wr) (fun j _ _ => nl - (RowKit.intOf j).toNat)
  case atStart => exact ⟨0, Nat.zero_le _, rfl, ⟨_, _, rfl⟩, HI0.out⟩
  case round =>
   obtain ⟨k, hk, rfl, ⟨oa, oc, rfl⟩, hFo⟩ := hrel
   have HFo := hide hFo
   by_cases hlt : k < nl
   ·have hki : (k : Int) < (nl : Int) := by omega
    obtain ⟨ms, hml, hmn, hrow, hdr⟩ := hFo
    have HMn := hide hmn
    have hkn : k < ns.length := by rw [← HNl.out]; exact hlt
    obtain ⟨a', c', e', -, -, h3⟩ := HNs.out wr hdr.tcs
    simp only [Value.slice.injEq] at e'
    obtain ⟨rfl, -, rfl⟩ := e'
    obtain ⟨b, off, rfl, hc⟩ := h3 (by omega)
    obtain ⟨d0, d1, d2⟩ := hc k hkn
    have HNm : Hid ((ns[k]).name.size ≤ 100000) := HN5.out.2 _ (List.getElem_mem hkn)
    generalize ns[k] = nd at d0 d1 d2 HNm
    obtain ⟨kd, vl, nm⟩ := nd
    dsimp only at d0 d1 d2 HNm
    have HLo5 : Hid (Lo g a len (fun k => k = g) w5.heap.size) := HLoc.out.mono HD5.out.tcs.size
    obtain ⟨W7, hW7⟩ : ∃ W7, W7 = wr.alloc (.cells #[.int .i64 kd, .int .i64 vl, .string nm] 32) := ⟨_, rfl⟩
    have hb7 : Below wr.heap.size wr W7 := by rw [hW7]; exact (Below.refl _ _).alloc (Nat.le_refl _) _
    have hx7 : FrC W7 wr.heap.size [.int .i64 kd, .int .i64 vl, .string nm] := by rw [hW7]; exact box_fr wr _ _ (by show 3 ≤ 1000; omega)
    have hz7 : W7.heap.size = wr.heap.size + 1 := by rw [hW7, World.size_alloc]
    have HDW7 := hide (hdr.below hb7)
    have HRW7 := hide (NRow.below hrow hb7)
    have HNb : Hid (∀ q, (Value.slice oa k oc).ownBlock = some q → q ≠ wr.heap.size) := fun q hq e => by have := (World.ownsRow.lt hrow q hq).2; omega
    have HW7 := hide hW7
    obtain ⟨Bx, hBx⟩ : ∃ Bx, Bx = wr.heap.size := ⟨_, rfl⟩
    rw [← hBx] at hx7 hz7 HNb
    have HX7 := hide hx7
    have HBx := hide hBx
    have hg5 : g < w5.heap.size := HD5.out.cur.lt
    have hBg : Bx ≠ g := by have := hdr.tcs.size; omega
    have hB5 : w5.heap.size ≤ Bx := by have := hdr.tcs.size; omega
    have hBW : Bx < W7.heap.size := by omega
    clear hz7 hW7 hb7 hBx hdr hrow hmn hc h3 HFo
    go_upto_region 11 with fail
    rw [← HW7.out, ← HBx.out]
    clear d0 d1 d2
    have x0 := (hx7 0 _ rfl).1
    have x1 := (hx7 1 _ rfl).1
    have x2 := (hx7 2 _ rfl).1
    clear hx7
    by_cases hkd : kd = 2 ∨ kd = 5
    ·have Ho : Hid (Calls Tryd.prog 11 #[.pointer (some ⟨g, 0, none⟩), .int .i64 2] W7 fun e w' => ∃ b, e = .returned (.bool b) ∧ Dr g a len cap (fun k => k = g) W7 w') := once_any g a len cap (fun k => k = g) 2 W7 hl rfl HDW7.out.cur (by omega)
     have hw8 : (kd == 2) = true ∨ ((kd == 2) = false ∧ (kd == 5) = true) := by
      rcases hkd with rfl | rfl
      ·exact .inl rfl
      ·exact .inr ⟨rfl, rfl⟩
     rcases hw8 with hk1 | ⟨hk1, hk2⟩
     all_goals (
      go_wp2_with fail
      refine Ho.out.mono ?_
      rintro e w8 ⟨b8, rfl, hd8⟩
      have hx8 : FrC w8 Bx [.int .i64 kd, .int .i64 vl, .string nm] := HX7.out.tcs hBW hd8.tcs hBg
      have HDw8 := hide (HDW7.out.trans hd8)
      have HRw8 : Hid (NRow w5.heap.size w8 (.slice oa k oc) ms) := own_tcs HRW7.out hd8.tcs (fun k hk => by have e : k = g := hk; omega)
      have x0 := (hx8 0 _ rfl).1
      have x1 := (hx8 1 _ rfl).1
      have x2 := (hx8 2 _ rfl).1
      have HX8 := hide hx8
      clear hd8 hx8 HDW7 HRW7 HX7 Ho
      cases b8
      ·go_upto_region 13 with fail
       have hle : ms.length + 1 ≤ 10000000 := by omega
       have hBw8 : w5.heap.size ≤ w8.heap.size := HDw8.out.tcs.size
       go_wp2_with (at_builtin; refine wpList_appN rfl _ _ rfl w5.heap.size _ ms rfl (NRow.below HRw8.out ((Below.refl _ _).alloc (Nat.le_refl _) _)) _ [⟨kd, vl, nm⟩] rfl (nrow_lit w8 0 (Nat.zero_le _) _ _ _).nodes (by simp) (by simpa using hle) (by simp; omega) ?_; intro u6 w6 h6 g6 f6; have HG6 : Hid (NRow w5.heap.size w6 u6 (ms ++ [⟨kd, vl, nm⟩]) ∧ Dr g a len cap (fun k => k = g) w5 w6) := ⟨h6, Dr.app (HDw8.out.alloc _) HLo5.out (NRow.below HRw8.out ((Below.refl _ _).alloc (Nat.le_refl _) _)) (Nat.le_refl _) g6⟩; clear h6 g6 f6)
       obtain ⟨ua6, uc6, hu6, -⟩ := own_shape HG6.out.1
       have hl6 : (ms ++ [(⟨kd, vl, nm⟩ : Nd)]).length = k + 1 := by simp; omega
       rw [hl6] at hu6
       subst hu6
       go_wp2_with fail
       go_roundw
       case rel => exact ⟨k + 1, by omega, by go_num, ⟨ua6, uc6, rfl⟩, ms ++ [⟨kd, vl, nm⟩], hl6, (fun n hn => by rcases List.mem_append.1 hn with h | h; exact HMn.out n h; (simp at h; subst h; first | exact HNm.out | exact Nat.zero_le _)), HG6.out.1, HG6.out.2⟩
       case measure => simp [RowKit.intOf]; omega
      ·go_wp2_with fail
       refine (word_draw g a len cap (fun k => k = g) _ hl rfl HDw8.out.cur).mono ?_
       rintro e w9 ⟨y9, rfl, hd9⟩
       have hx9 : FrC w9 Bx [.int .i64 kd, .int .i64 vl, .string nm] := HX8.out.tcs (World.block_lt_of_cell? _ _ x0) hd9.tcs hBg
       have HDw9 := hide (HDw8.out.trans hd9)
       have HRw9 : Hid (NRow w5.heap.size w9 (.slice oa k oc) ms) := own_tcs HRw8.out hd9.tcs (fun k hk => by have e : k = g := hk; omega)
       obtain ⟨WA, hWA⟩ : ∃ WA, WA = ((w9.setCell ⟨Bx, 0, none⟩ (.int .i64 1)).setCell ⟨Bx, 1, none⟩ (.int .i64 y9)).setCell ⟨Bx, 2, none⟩ (.string ⟨#[]⟩) := ⟨_, rfl⟩
       have hxA : FrC WA Bx [.int .i64 1, .int .i64 y9, .string ⟨#[]⟩] := by rw [hWA]; exact ((hx9.set 0 _).set 1 _).set 2 _
       have hTA : Tcs (fun k => k = Bx) w9 WA := by rw [hWA]; exact (((Tcs.refl (fun k => k = Bx) w9).setCell (p := ⟨Bx, 0, none⟩) rfl _).setCell (p := ⟨Bx, 1, none⟩) rfl _).setCell (p := ⟨Bx, 2, none⟩) rfl _
       have HDWA : Hid (Dr g a len cap (fun k => k = g) w5 WA) := HDw9.out.new HLo5.out hTA (fun k hk => by have e : k = Bx := hk; omega)
       have HRWA : Hid (NRow w5.heap.size WA (.slice oa k oc) ms) := by
        refine own_notU HRw9.out hTA (fun q hq hs => ?_)
        have e : q = Bx := hs
        subst e
        exact HNb.out q hq rfl
       have z0 := (hx9 0 _ rfl).1
       have z1 := (hx9 1 _ rfl).1
       have z2 := (hx9 2 _ rfl).1
       have f0 := (hx9 0 _ rfl).2
       have f1 := (hx9 1 _ rfl).2
       have f2 := (hx9 2 _ rfl).2
       have HWA := hide hWA
       have HXA := hide hxA
       clear hWA hTA hd9 hx9 x0 x1 x2 HX8 HDw8 HRw8
       go_upto_region 13 with fail
       rw [← HWA.out]
       clear z0 z1 z2 f0 f1 f2
       have x0 := (HXA.out 0 _ rfl).1
       have x1 := (HXA.out 1 _ rfl).1
       have x2 := (HXA.out 2 _ rfl).1
       have hle : ms.length + 1 ≤ 10000000 := by omega
       have hBWA : w5.heap.size ≤ WA.heap.size := HDWA.out.tcs.size
       go_wp2_with (at_builtin; refine wpList_appN rfl _ _ rfl w5.heap.size _ ms rfl (NRow.below HRWA.out ((Below.refl _ _).alloc (Nat.le_refl _) _)) _ [⟨1, y9, ⟨#[]⟩⟩] rfl (nrow_lit WA 0 (Nat.zero_le _) _ _ _).nodes (by simp) (by simpa using hle) (by simp; omega) ?_; intro u6 w6 h6 g6 f6; have HG6 : Hid (NRow w5.heap.size w6 u6 (ms ++ [⟨1, y9, ⟨#[]⟩⟩]) ∧ Dr g a len cap (fun k => k = g) w5 w6) := ⟨h6, Dr.app (HDWA.out.alloc _) HLo5.out (NRow.below HRWA.out ((Below.refl _ _).alloc (Nat.le_refl _) _)) (Nat.le_refl _) g6⟩; clear h6 g6 f6)
       obtain ⟨ua6, uc6, hu6, -⟩ := own_shape HG6.out.1
       have hl6 : (ms ++ [(⟨1, y9, ⟨#[]⟩⟩ : Nd)]).length = k + 1 := by simp; omega
       rw [hl6] at hu6
       subst hu6
       go_wp2_with fail
       go_roundw
       case rel => exact ⟨k + 1, by omega, by go_num, ⟨ua6, uc6, rfl⟩, ms ++ [⟨1, y9, ⟨#[]⟩⟩], hl6, (fun n hn => by rcases List.mem_append.1 hn with h | h; exact HMn.out n h; (simp at h; subst h; first | exact HNm.out | exact Nat.zero_le _)), HG6.out.1, HG6.out.2⟩
       case measure => simp [RowKit.intOf]; omega
      )
    ·have hk1 : (kd == 2) = false := by simp; omega
     have hk2 : (kd == 5) = false := by simp; omega
     go_upto_region 13 with fail
     have hle : ms.length + 1 ≤ 10000000 := by omega
     have hBW7 : w5.heap.size ≤ W7.heap.size := HDW7.out.tcs.size
     go_wp2_with (at_builtin; refine wpList_appN rfl _ _ rfl w5.heap.size _ ms rfl (NRow.below HRW7.out ((Below.refl _ _).alloc (Nat.le_refl _) _)) _ [⟨kd, vl, nm⟩] rfl (nrow_lit W7 0 (Nat.zero_le _) _ _ _).nodes (by simp) (by simpa using hle) (by simp; omega) ?_; intro u6 w6 h6 g6 f6; have HG6 : Hid (NRow w5.heap.size w6 u6 (ms ++ [⟨kd, vl, nm⟩]) ∧ Dr g a len cap (fun k => k = g) w5 w6) := ⟨h6, Dr.app (HDW7.out.alloc _) HLo5.out (NRow.below HRW7.out ((Below.refl _ _).alloc (Nat.le_refl _) _)) (Nat.le_refl _) g6⟩; clear h6 g6 f6)
     obtain ⟨ua6, uc6, hu6, -⟩ := own_shape HG6.out.1
     have hl6 : (ms ++ [(⟨kd, vl, nm⟩ : Nd)]).length = k + 1 := by simp; omega
     rw [hl6] at hu6
     subst hu6
     go_wp2_with fail
     go_roundw
     case rel => exact ⟨k + 1, by omega, by go_num, ⟨ua6, uc6, rfl⟩, ms ++ [⟨kd, vl, nm⟩], hl6, (fun n hn => by rcases List.mem_append.1 hn with h | h; exact HMn.out n h; (simp at h; subst h; first | exact HNm.out | exact Nat.zero_le _)), HG6.out.1, HG6.out.2⟩
     case measure => simp [RowKit.intOf]; omega
   ·have hki : ¬ (k : Int) < (nl : Int) := by omega
    obtain ⟨ms, hml, hmn, hrow, hdr⟩ := hFo
    have HMn := hide hmn
    have HRr := hide hrow
    have HDr := hide hdr
    have hgw : w.heap.size ≤ g := by have := HG.out; omega
    have hBr : ∀ X, Dr g a len cap (fun k => k = g) w5 X → Below w.heap.size w X := fun X hX => (HD5.out.trans hX).tcs.below HBw.out HBw.out.size (fun k hk => by have e : k = g := hk; omega)
    have HBr := hide hBr
    have HLo5 : Hid (Lo g a len (fun k => k = g) w5.heap.size) := HLoc.out.mono HD5.out.tcs.size
    have hg5 : g < w5.heap.size := HD5.out.cur.lt
    clear hrow hdr hmn HFo hBr
    go_wp2_with fail
    refine (once_any g a len cap (fun k => k = g) _ _ hl rfl HDr.out.cur (by omega)).mono ?_
    rintro e w9 ⟨b9, rfl, hd9⟩
    have HD9 := hide (HDr.out.trans hd9)
    have HR9 : Hid (NRow w5.heap.size w9 (.slice oa k oc) ms) := own_tcs HRr.out hd9.tcs (fun q hq => by have e : q = g := hq; omega)
    clear hd9
    cases b9
    ·go_wp2_with fail
     go_ret
     exact ⟨_, ms, rfl, HR9.out.nodes, by omega, HMn.out, HBr.out _ HD9.out⟩
    ·have hB9 : w5.heap.size ≤ w9.heap.size := HD9.out.tcs.size
     have hle : ms.length + 1 ≤ 10000000 := by omega
     go_wp2_with (at_builtin; refine wpList_appN rfl _ _ rfl w5.heap.size _ ms rfl (NRow.below HR9.out ((Below.refl _ _).alloc (Nat.le_refl _) _)) _ [⟨7, 0, ⟨#[]⟩⟩] rfl (nrow_lit w9 0 (Nat.zero_le _) _ _ _).nodes (by simp) (by simpa using hle) (by simp; omega) ?_; intro u6 w6 h6 g6 f6; have HG6 : Hid (NRow w5.heap.size w6 u6 (ms ++ [⟨7, 0, ⟨#[]⟩⟩]) ∧ Dr g a len cap (fun k => k = g) w5 w6) := ⟨h6, Dr.app (HD9.out.alloc _) HLo5.out (NRow.below HR9.out ((Below.refl _ _).alloc (Nat.le_refl _) _)) (Nat.le_refl _) g6⟩; clear h6 g6 f6)
     obtain ⟨ua6, uc6, hu6, -⟩ := own_shape HG6.out.1
     subst hu6
     go_wp2_with fail
     go_ret
     exact ⟨_, _, rfl, HG6.out.1.nodes, by simp; omega, (fun n hn => by rcases List.mem_append.1 hn with h | h; exact HMn.out n h; (simp at h; subst h; exact Nat.zero_le _)), HBr.out _ HG6.out.2⟩
end
end Go.Proofs.YtolkpkklinoegaaDoor
