import Derived.Test.YtjhmgjimppflhaaGreatDoorY42
import Derived.Test.YtjhmgjimppflhaaGreatDoorY54
import Derived.Test.YtjhmgjimppflhaaGreatDoorY44
namespace Go.Proofs.YtjhmgjimppflhaaGreatDoor
set_option linter.unusedVariables false
set_option linter.unusedSimpArgs false
set_option maxRecDepth 100000
set_option maxHeartbeats 16000000
section
open Go.RowKit Go.Sort
theorem wide_yes {l : List Int} {k : Nat} (hk : k ≤ l.length) {b : Bool} (hb : b = true ↔ ∃ j, ∃ h : j < l.length, j < k ∧ 2032 < l[j]) (ht : b = true) : ∃ x ∈ l, 2032 < x := by
 obtain ⟨j, h, -, hx⟩ := hb.1 ht
 exact ⟨_, List.getElem_mem h, hx⟩
theorem wide_no {l : List Int} {b : Bool} (hb : b = true ↔ ∃ j, ∃ h : j < l.length, j < l.length ∧ 2032 < l[j]) (ht : b = false) : ∀ x ∈ l, x ≤ 2032 := by
 intro x hx
 obtain ⟨j, h, rfl⟩ := List.getElem_of_mem hx
 by_cases hh : 2032 < l[j]
 ·rw [hb.2 ⟨j, h, h, hh⟩] at ht; cases ht
 ·omega
theorem wide_step {l : List Int} {k : Nat} (hk : k < l.length) {b b' : Bool} (hb : b = true ↔ ∃ j, ∃ h : j < l.length, j < k ∧ 2032 < l[j]) (he : b' = true ↔ b = true ∨ 2032 < l[k]) : b' = true ↔ ∃ j, ∃ h : j < l.length, j < k + 1 ∧ 2032 < l[j] := by
 rw [he, hb]
 constructor
 ·rintro (⟨j, h, h1, h2⟩ | h)
  ·exact ⟨j, h, by omega, h2⟩
  ·exact ⟨k, hk, by omega, h⟩
 ·rintro ⟨j, h, h1, h2⟩
  by_cases e : j = k
  ·subst e; exact .inr h2
  ·exact .inl ⟨j, h, by omega, h2⟩
theorem sound_frames [Inhabited Pick] {t : Tr} (h : (checkE t).1 = 0) (hw : wfT t) : ∀ x ∈ framesL t, 16 ≤ x ∧ x % 16 = 0 ∧ x ≤ 1000000 := by
 rw [framesL_yes h]
 intro x hx
 obtain ⟨f, hf, rfl⟩ := List.mem_map.1 hx
 have h1 := (frOk h hw).2 f hf
 have h2 := frameSz_16 h1
 have h3 := frameSz_bd h1
 exact ⟨h2.1, h2.2, h3.2⟩
theorem sound_fsz [Inhabited Pick] {t : Tr} (h : (checkE t).1 = 0) (hw : wfT t) : ∀ f, f < t.funcs.length → 0 ≤ fszF t f ∧ fszF t f ≤ 1000000 := by
 intro f hf
 have e : fszF t f = frameSz t.funcs[f] := by unfold fszF; simp [List.getD, hf]
 rw [e]
 exact frameSz_bd ((frOk h hw).2 _ (List.getElem_mem hf))
set_option maxRecDepth 100000 in
set_option maxHeartbeats 16000000 in
theorem law_fnbound (a : Option Addr) (len cap : Nat) (w : World) (hT : Tab w) (hl : len ≤ 1048576)
  (HD : Calls Tryz.prog 11 #[.slice a len cap] w fun e w' => ∃ vg vf t, e = .returned (.agg #[vg, vf]) ∧ TW (fun _ => False) w' vg vf t ∧ Below w.heap.size w w') :
  Calls Tryz.prog 4 #[.slice a len cap] w fun e w' => e = .returned (.bool true) ∧ Below w.heap.size w w' := by
 haveI : Inhabited Pick := ⟨⟨fun _ h => Classical.choice h⟩⟩
 have HT := hide hT
 have HDr := hide HD
 have hsz := hT.size
 clear hT HD
 go_enter Tryz.func4, Tryz.ntmps4
 go_wp2_with fail
 refine HDr.out.mono ?_
 clear HDr
 rintro e w1 ⟨vg, vf, t, rfl, htw, hb1⟩
 obtain ⟨ga, gn, gc, fa, fn, fc, rfl, rfl⟩ := tw_shape htw
 have HS := hide htw.small.1
 have HW := hide htw.small.2
 have hnf : t.funcs.length ≤ 20 := htw.fl
 have hfne : fn = t.funcs.length := by
  obtain ⟨_, _, e, -⟩ := htw.fs w1 (Tcs.refl _ _)
  simp only [Value.slice.injEq] at e
  exact e.2.1
 have HFne := hide hfne
 clear hfne
 obtain ⟨W1, hW1⟩ : ∃ W1, W1 = w1.alloc (.cells #[.slice ga gn gc, .slice fa fn fc] 26) := ⟨_, rfl⟩
 obtain ⟨P3, hP3⟩ : ∃ P3, P3 = w1.heap.size := ⟨_, rfl⟩
 have hbb : Below w1.heap.size w1 W1 := by rw [hW1]; exact (Below.refl _ _).alloc (Nat.le_refl _) _
 have Tb : W1.cell? ⟨P3, 0, none⟩ = some (.slice ga gn gc) ∧ W1.cell? ⟨P3, 1, none⟩ = some (.slice fa fn fc) := by rw [hW1, hP3]; exact ⟨by simp, by simp⟩
 have hl3 := World.block_lt_of_cell? _ _ Tb.1
 have hB1 : Below w.heap.size w W1 := hb1.trans (hbb.mono hb1.size)
 have HGx : Hid (∀ W, Below W1.heap.size W1 W → Globs W (.slice ga gn gc) t.globals ∧ Funcs W (.slice fa fn fc) t.funcs) := fun W hW => ⟨htw.gs W ((hbb.tcs).trans hW.tcs), htw.fs W ((hbb.tcs).trans hW.tcs)⟩
 have HTb : Hid (∀ X, Below W1.heap.size W1 X → X.cell? ⟨P3, 0, none⟩ = some (.slice ga gn gc) ∧ X.cell? ⟨P3, 1, none⟩ = some (.slice fa fn fc)) := fun X hX => ⟨(hX.cell (p := ⟨P3, 0, none⟩) hl3).trans Tb.1, (hX.cell (p := ⟨P3, 1, none⟩) hl3).trans Tb.2⟩
 have HW1 := hide hW1
 have HP3 := hide hP3
 have HB1 := hide hB1
 have HTab : Hid (∀ W, Below W1.heap.size W1 W → Tab W) := fun W hW => HT.out.below hsz (hB1.trans (hW.mono hB1.size))
 have HFG : Hid (∀ W, Below W1.heap.size W1 W → Calls Tryz.prog 14 #[.agg #[.slice ga gn gc, .slice fa fn fc]] W fun e w' => ∃ v, e = .returned v ∧ FRow W.heap.size w' v (framesL t) ∧ Below W.heap.size W w') := fun W hW => framesG_any t _ _ W HS.out HW.out (HGx.out W hW).1 (HGx.out W hW).2
 have HBI : Hid (∀ W, Below W1.heap.size W1 W → Calls Tryz.prog 15 #[.agg #[.slice ga gn gc, .slice fa fn fc]] W fun e w' => e = .returned (.int .i64 (boundE t)) ∧ Below W.heap.size W w') := fun W hW => boundI_any t _ _ W (HTab.out W hW) HS.out HW.out (HGx.out W hW).1 (HGx.out W hW).2
 have HBG : Hid (∀ W, Below W1.heap.size W1 W → Calls Tryz.prog 16 #[.agg #[.slice ga gn gc, .slice fa fn fc]] W fun e w' => e = .returned (.int .i64 (boundE t)) ∧ Below W.heap.size W w') := fun W hW => boundG_any t _ _ W HS.out HW.out (HGx.out W hW).1 (HGx.out W hW).2
 obtain ⟨bd, hbd⟩ : ∃ bd, bd = boundE t := ⟨_, rfl⟩
 rw [← hbd] at HBI HBG
 have HBd := hide hbd
 obtain ⟨x, y, z, hX⟩ : ∃ x y z, checkE t = (x, y, z) := ⟨_, _, _, rfl⟩
 have HX : Hid (resV (checkE t) = .agg #[.int .i64 x, .int .i64 y, .int .i64 z]) := by show _ = _; rw [hX]; rfl
 have HX1 : Hid ((checkE t).1 = x) := by show _ = _; rw [hX]
 obtain ⟨fl, hfl⟩ : ∃ fl, fl = framesL t := ⟨_, rfl⟩
 rw [← hfl] at HFG
 have HFl := hide hfl
 have hfl20 : fl.length ≤ 20 := by rw [hfl]; exact Nat.le_trans (framesL_len t) hnf
 clear hX htw hb1 hW1 hP3 Tb hbb hl3 hB1 hbd hfl
 go_upto_region 4 with fail
 rw [← HW1.out, ← HP3.out]
 clear HW1 HP3
 obtain ⟨y0, y1⟩ := HTb.out W1 (Below.refl _ _)
 go_wp2_with fail
 refine (framesI_any t _ _ W1 (HTab.out W1 (Below.refl _ _)) HS.out HW.out (HGx.out W1 (Below.refl _ _)).1 (HGx.out W1 (Below.refl _ _)).2).mono ?_
 rintro e w2 ⟨vF, rfl, hrF, hb2⟩
 rw [← HFl.out] at hrF
 obtain ⟨Fa, Fc, rfl⟩ := hrF.shape
 obtain ⟨ln, hln⟩ : ∃ ln, ln = fl.length := ⟨_, rfl⟩
 rw [← hln] at hrF
 have HLn := hide hln
 have HRF : Hid (∀ W, Below w2.heap.size w2 W → Ints W (.slice Fa ln Fc) fl) := fun W hW => by
  refine own_ints (N := W1.heap.size) ?_
  exact ownB hrF hW
 rw [← hln]
 have HB2 := hide hb2
 have hsz2 := hb2.size
 clear hrF hb2 hln y0 y1
 obtain ⟨y0, y1⟩ := HTb.out w2 HB2.out
 have hl3 : P3 < w2.heap.size := World.block_lt_of_cell? _ _ y0
 go_wp2_with fail
 go_region_held (fun W => W.cell? ⟨P3, 0, none⟩ = some (.slice ga gn gc) ∧ W.cell? ⟨P3, 1, none⟩ = some (.slice fa fn fc)) (go_keep)
  (first
  | ((with_reducible refine Calls.mono (HFG.out _ (HB2.out.trans ((Below.refl _ _).drew))) ?_); intro e w3 hx; obtain ⟨v3, he3, hr3, hb3⟩ := hx; subst he3; have hB3 : Below w2.heap.size w2 w3 := (Below.refl _ _).drew.trans hb3; have hB31 : Below W1.heap.size W1 w3 := HB2.out.trans (hB3.mono hsz2); have q := HTb.out w3 hB31; have HI3 := hide (own_ints hr3))
  | ((with_reducible refine Calls.mono (lwNums_any _ v3 fl w3 (by omega) (HRF.out w3 hB3) HI3.out) ?_); intro e w4 hx; obtain ⟨he4, hb4⟩ := hx; subst he4; have hB4 : Below w2.heap.size w2 w4 := hB3.trans (hb4.mono hB3.size); have hB41 : Below W1.heap.size W1 w4 := HB2.out.trans (hB4.mono hsz2); have q4 := HTb.out w4 hB41)
  | ((with_reducible refine Calls.mono (HBI.out w4 hB41) ?_); intro e w5 hx; obtain ⟨he5, hb5⟩ := hx; subst he5; have hB5 : Below w2.heap.size w2 w5 := hB4.trans (hb5.mono hB4.size); have hB51 : Below W1.heap.size W1 w5 := HB2.out.trans (hB5.mono hsz2); have q5 := HTb.out w5 hB51)
  | ((with_reducible refine Calls.mono (HBG.out w5 hB51) ?_); intro e w6 hx; obtain ⟨he6, hb6⟩ := hx; subst he6; have hB6 : Below w2.heap.size w2 w6 := hB5.trans (hb6.mono hB5.size); have hB61 : Below W1.heap.size W1 w6 := HB2.out.trans (hB6.mono hsz2); have q6 := HTb.out w6 hB61))
 have HB6 := hide hB6
 obtain ⟨p0, p1⟩ := q6
 have hfd := fld_err x y z
 have hsz6 := hB6.size
 clear q q4 q5 hb3 hB3 hB31 HI3 hr3 hb4 hB4 hB41 hb5 hB5 hB51 hb6 hB6 y0 y1
 go_wp2_with fail
 refine (checkCG_any l3block t _ _ w6 HS.out HW.out (HGx.out w6 hB61).1 (HGx.out w6 hB61).2).mono ?_
 rintro e w7 ⟨rfl, hb7⟩
 rw [HX.out]
 have hB7 : Below w2.heap.size w2 w7 := HB6.out.trans (hb7.mono hsz6)
 have hB71 : Below W1.heap.size W1 w7 := hB61.trans (hb7.mono hB61.size)
 have HB7 := hide hB7
 have hsz7 := hB7.size
 clear hb7 hB61 p0 p1 hB7
 obtain ⟨y0, y1⟩ := HTb.out w7 hB71
 have HRet : Hid (∀ X, Below w7.heap.size w7 X → Below w.heap.size w X) := fun X hX => HB1.out.trans ((hB71.trans (hX.mono hB71.size)).mono HB1.out.size)
 by_cases hx0 : x = 0
 rotate_left 1
 ·have hx0' : (x == 0) = false := by simpa using hx0
  have hno : (checkE t).1 ≠ 0 := by rw [HX1.out]; exact hx0
  have hl0 : ln = 0 := by rw [HLn.out, HFl.out, framesL_no hno]; rfl
  have hbm : bd = -1 := by rw [HBd.out, boundE_no hno]
  subst hl0
  subst hbm
  go_wp2_with fail
  refine (HBI.out w7 hB71).mono ?_
  rintro e w8 ⟨rfl, hb8⟩
  go_wp2_with fail
  go_ret
  exact ⟨rfl, HRet.out _ hb8⟩
 subst hx0
 obtain ⟨m, hm, hml, hac⟩ := sound_main HX1.out
 have hbt : treeB t = true := sound_tr HX1.out
 have hfr := sound_frames HX1.out HW.out
 rw [← HFl.out] at hfr
 have HFr := hide hfr
 have HM := hide hm
 have HAc := hide hac
 clear hfr hm hac
 go_wp2_with fail
 go_loopw [5, 6] (fun wv i ws => ∃ (b : Bool) (k : Nat), wv = .bool b ∧ i = .int .i64 k ∧ k ≤ ln ∧ (b = true ↔ ∃ j, ∃ h : j < fl.length, j < k ∧ 2032 < fl[j]) ∧ Below w7.heap.size w7 ws) (fun _ i _ => ln - (RowKit.intOf i).toNat)
 case atStart => exact ⟨false, 0, rfl, rfl, Nat.zero_le _, by simp, Below.refl _ _⟩
 case round =>
  obtain ⟨b, k, rfl, rfl, hk, hbk, hbs⟩ := hrel
  rename World => Ws
  have HBk := hide hbk
  have HBs := hide hbs
  have hB2s : Below w2.heap.size w2 Ws := HB7.out.trans (hbs.mono hsz7)
  have hB1s : Below W1.heap.size W1 Ws := hB71.trans (hbs.mono hB71.size)
  have hln20 : ln ≤ 20 := by rw [HLn.out]; exact hfl20
  clear hbs y0 y1
  by_cases hlt : k < ln
  ·obtain ⟨va, vc, ev, hcc⟩ := HRF.out Ws hB2s
   have hk' : k < fl.length := by rw [← HLn.out]; exact hlt
   obtain ⟨bf, hbf, hc⟩ := hcc (by omega)
   simp only [Value.slice.injEq] at ev
   obtain ⟨rfl, -, rfl⟩ := ev
   subst hbf
   have x5 := hc k hk'
   have hx := HFr.out fl[k] (List.getElem_mem hk')
   have HSt : Hid (∀ b', (b' = true ↔ b = true ∨ 2032 < fl[k]) → (b' = true ↔ ∃ j, ∃ h : j < fl.length, j < k + 1 ∧ 2032 < fl[j])) := fun b' he => wide_step hk' hbk he
   generalize fl[k] = u at x5 hx HSt
   have hm16 : u.tmod 16 = 0 := by rw [Int.tmod_eq_emod_of_nonneg (by omega)]; exact hx.2.1
   have hu16 : ¬ u < 16 := by omega
   clear hcc hc hbk
   cases b
   ·go_wp2_with fail
    go_roundw
    case rel => exact ⟨_, k + 1, rfl, by go_num, hlt, HSt.out _ (by simp), HBs.out⟩
    case measure => simp [RowKit.intOf]; omega
   ·go_wp2_with fail
    go_roundw
    case rel => exact ⟨_, k + 1, rfl, by go_num, hlt, HSt.out _ (by simp), HBs.out⟩
    case measure => simp [RowKit.intOf]; omega
  ·obtain ⟨y0, y1⟩ := HTb.out Ws hB1s
   have hke : k = fl.length := by rw [← HLn.out]; omega
   cases b
   ·have hle := wide_no (l := fl) (by rw [hke] at hbk; exact hbk) rfl
    obtain ⟨s, hd⟩ := sound_dp HX1.out HM.out hml HAc.out
    have hbe : bd = s := by rw [HBd.out, boundE_yes HX1.out (by rw [← HFl.out]; exact hle) HM.out, hd.deep]
    have c0 : ∀ dd os, Calls Tryz.prog 15 #[.agg #[.slice ga gn gc, .slice fa fn fc]] (grow (redrawn Ws dd) os) fun e w'' => e = .returned (.int .i64 bd) ∧ ∃ p : Regrown, w'' = grow (redrawn Ws p.d) p.os := fun dd os => Calls.regrown_of (HBI.out _ (hB1s.trans ((below_regrown Ws dd os).mono hB1s.size)))
    have c1 : ∀ dd os, Calls Tryz.prog 9 #[.agg #[.slice ga gn gc, .slice fa fn fc]] (grow (redrawn Ws dd) os) fun e w'' => e = .returned (.int .i64 (m : Int)) ∧ ∃ p : Regrown, w'' = grow (redrawn Ws p.d) p.os := fun dd os => Calls.regrown_of (by
     have := lwMain_any t.funcs (.slice ga gn gc) (.slice fa fn fc) (grow (redrawn Ws dd) os) (by omega) (HGx.out _ (hB1s.trans ((below_regrown Ws dd os).mono hB1s.size))).2
     rw [fnumI_some HM.out] at this
     exact this)
    have c2 : ∀ dd os, Calls Tryz.prog 17 #[.agg #[.slice ga gn gc, .slice fa fn fc], .slice Fa ln Fc, .int .i64 (m : Int), .int .i64 (fn : Int)] (grow (redrawn Ws dd) os) fun e w'' => e = .returned (.int .i64 s) ∧ ∃ p : Regrown, w'' = grow (redrawn Ws p.d) p.os := fun dd os => Calls.regrown_of (by
     refine lwDeep_any t ga gn gc fa fn fc (.slice Fa ln Fc) w7 hbt hnf (sound_fsz HX1.out HW.out) (fun f W hW => ?_) (fun W hW => ?_) t.funcs.length m s hd t.funcs.length (fn : Int) (by rw [HFne.out]) (Nat.le_refl _) (by omega) _ (HBs.out.trans ((below_regrown Ws dd os).mono HBs.out.size))
     ·have hW1 : Below W1.heap.size W1 W := hB71.trans (hW.mono hB71.size)
      refine (callsI_any t _ _ f W (HTab.out W hW1) HS.out HW.out (HGx.out W hW1).1 (HGx.out W hW1).2).mono ?_
      rintro e w' ⟨v, rfl, ho, hb⟩
      have ho' : IRow W.heap.size w' v (callsF t f) := ho
      obtain ⟨va, vc, rfl⟩ := ho'.shape
      exact ⟨va, vc, rfl, ho', hb⟩
     ·have := HRF.out W (HB7.out.trans (hW.mono hsz7))
      rw [HFl.out, framesL_yes HX1.out] at this
      exact this)
    have k0 := cell_regrown y0
    have k1 := cell_regrown y1
    subst hbe
    clear hbk hke hle hd
    go_wp2_with fail
    refine wp_region_quiet_below (by kernel_rfl) (by kernel_rfl) ?_
    repeat (go_big_quiet_step (first | with_reducible exact c0 _ _ | with_reducible exact c1 _ _ | with_reducible exact c2 _ _))
    refine wpQuiet_nil ?_
    intro _ hw'
    obtain ⟨⟨dq, osq⟩, hw''⟩ := hw'
    subst hw''
    go_wp2_with fail
    go_ret
    exact ⟨rfl, HRet.out _ (HBs.out.trans ((below_regrown Ws dq osq).mono HBs.out.size))⟩
   ·have hbig := wide_yes (l := fl) (k := k) (by omega) hbk rfl
    have hbm : bd = -1 := by rw [HBd.out, boundE_big (by rw [← HFl.out]; exact hbig)]
    subst hbm
    clear hbk hke hbig
    go_wp2_with fail
    refine (HBI.out Ws hB1s).mono ?_
    rintro e w8 ⟨rfl, hb8⟩
    go_wp2_with fail
    go_ret
    exact ⟨rfl, HRet.out _ (HBs.out.trans (hb8.mono HBs.out.size))⟩
end
section
open Go.RowKit
set_option maxHeartbeats 1000000 in
theorem bound_big (a : Option Addr) (len cap : Nat) (w : World) (hl : (1048576 : Int) < len) (hm : len ≤ 9223372036854775807) :
  Calls Tryz.prog 4 #[.slice a len cap] w fun e w' => e = .returned (.bool true) ∧ Below w.heap.size w w' := by
 go_enter Tryz.func4, Tryz.ntmps4
 go_wp2_with fail
 go_ret
 exact ⟨rfl, Below.refl _ _⟩
theorem walk_bound (a : Option Addr) (len cap : Nat) (w : World) (hT : Tab w) (hm : len ≤ 9223372036854775807) (hb : B8 w a len) :
  Calls Tryz.prog 4 #[.slice a len cap] w fun e w' => e = .returned (.bool true) ∧ Below w.heap.size w w' := by
 haveI : Inhabited Pick := ⟨⟨fun _ h => Classical.choice h⟩⟩
 by_cases h : len ≤ 1048576
 ·exact law_fnbound a len cap w hT h (draw_bound a len cap w h hb)
 ·exact bound_big a len cap w (by omega) hm
end
end Go.Proofs.YtjhmgjimppflhaaGreatDoor
