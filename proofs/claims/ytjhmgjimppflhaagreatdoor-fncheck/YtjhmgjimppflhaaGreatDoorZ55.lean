import Derived.Test.YtjhmgjimppflhaaGreatDoorZ54
import Derived.Test.YtjhmgjimppflhaaGreatDoorZ42
import Derived.Deep.RegionHeld
import Derived.Lib.QuietBelow
import Derived.BigQuiet
import Derived.RegionTactic
namespace Go.Proofs.YtjhmgjimppflhaaGreatDoor
set_option linter.unusedVariables false
set_option linter.unusedSimpArgs false
set_option maxRecDepth 100000
set_option maxHeartbeats 16000000
section
open Go.RowKit Go.Sort
theorem tree_small {t : Tr} {S : Nat → Prop} {w : World} {vg vf : Value} (h : TW S w vg vf t) : t.funcs.length ≤ 20 := h.fl
set_option maxRecDepth 100000 in
set_option maxHeartbeats 16000000 in
theorem law_fncheck (a : Option Addr) (len cap : Nat) (w : World) (hT : Tab w) (hE : ErrT w) (hl : len ≤ 1048576)
    (HD : Calls Tryz.prog 5 #[.slice a len cap] w fun e w' => ∃ vg vf t, e = .returned (.agg #[vg, vf]) ∧ TW (fun _ => False) w' vg vf t ∧ Below w.heap.size w w') :
    Calls Tryz.prog 3 #[.slice a len cap] w fun e w' => e = .returned (.bool true) ∧ Below w.heap.size w w' := by
  haveI : Inhabited Pick := ⟨⟨fun _ h => Classical.choice h⟩⟩
  have HT := hide hT
  have HEr := hide hE
  have HDr := hide HD
  have hsz := hT.size
  clear hT hE HD
  go_enter Tryz.func3, Tryz.ntmps3
  go_wp2_with fail
  refine HDr.out.mono ?_
  clear HDr
  rintro e w1 ⟨vg, vf, t, rfl, htw, hb1⟩
  obtain ⟨ga, gn, gc, fa, fn, fc, rfl, rfl⟩ := tw_shape htw
  have HS := hide htw.small.1
  have HW := hide htw.small.2
  have hnf : t.funcs.length ≤ 20 := htw.fl
  obtain ⟨W1, hW1⟩ : ∃ W1, W1 = w1.alloc (.cells #[.slice ga gn gc, .slice fa fn fc] 26) := ⟨_, rfl⟩
  obtain ⟨P3, hP3⟩ : ∃ P3, P3 = w1.heap.size := ⟨_, rfl⟩
  obtain ⟨Tb, hbb, hlb⟩ := newB2 hW1
  rw [← hP3] at Tb
  have hB1 : Below w.heap.size w W1 := hb1.trans (hbb.mono hb1.size)
  have HGx : Hid (∀ W, Below W1.heap.size W1 W → Globs W (.slice ga gn gc) t.globals ∧ Funcs W (.slice fa fn fc) t.funcs) := fun W hW => ⟨htw.gs W ((hbb.tcs).trans hW.tcs), htw.fs W ((hbb.tcs).trans hW.tcs)⟩
  have HW1 := hide hW1
  have HP3 := hide hP3
  have HTb := hide Tb
  have HB1 := hide hB1
  obtain ⟨x, y, z, hX⟩ : ∃ x y z, checkE t = (x, y, z) := ⟨_, _, _, rfl⟩
  have HX : Hid (resV (checkE t) = .agg #[.int .i64 x, .int .i64 y, .int .i64 z]) := by show _ = _; rw [hX]; rfl
  have HX1 : Hid ((checkE t).1 = x) := by show _ = _; rw [hX]
  clear hX htw hb1 hW1 hP3 Tb hbb hlb hB1
  go_upto_region 4 with fail
  rw [← HW1.out, ← HP3.out]
  obtain ⟨y0, y1⟩ := HTb.out
  go_wp2_with fail
  refine (checkCG_any l3block t _ _ W1 HS.out HW.out (HGx.out W1 (Below.refl _ _)).1 (HGx.out W1 (Below.refl _ _)).2).mono ?_
  rintro e w2 ⟨rfl, hb2⟩
  rw [HX.out]
  obtain ⟨W2, hW2⟩ : ∃ W2, W2 = w2.alloc (.cells #[.int .i64 x, .int .i64 y, .int .i64 z] 29) := ⟨_, rfl⟩
  obtain ⟨P4, hP4⟩ : ∃ P4, P4 = w2.heap.size := ⟨_, rfl⟩
  obtain ⟨Rb, hbr, hlr⟩ := newB3 hW2
  rw [← hP4] at Rb
  have hB2 : Below W1.heap.size W1 W2 := hb2.trans (hbr.mono hb2.size)
  have HW2 := hide hW2
  have HP4 := hide hP4
  have HRb := hide Rb
  have HB2 := hide hB2
  have HTb2 := hide (keepB2 HTb.out hB2)
  clear hW2 hP4 Rb hbr hlr hB2 hb2 y0 y1
  go_upto_region 5 with fail
  rw [← HW2.out, ← HP4.out]
  clear HW1 HP3 HW2 HP4 HTb
  have c0 : ∀ dd os, Calls Tryz.prog 7 #[.agg #[.slice ga gn gc, .slice fa fn fc]] (grow (redrawn W2 dd) os) fun e w'' => e = .returned (.agg #[.int .i64 x, .int .i64 y, .int .i64 z]) ∧ ∃ p : Regrown, w'' = grow (redrawn W2 p.d) p.os := fun dd os => Calls.regrown_of (by
    have hBq : Below W1.heap.size W1 (grow (redrawn W2 dd) os) := HB2.out.trans ((below_regrown W2 dd os).mono HB2.out.size)
    have hBw : Below w.heap.size w (grow (redrawn W2 dd) os) := HB1.out.trans (hBq.mono HB1.out.size)
    have := checkCI_any t (.slice ga gn gc) (.slice fa fn fc) (grow (redrawn W2 dd) os) (HT.out.below hsz hBw) (HEr.out.below hBw) HS.out HW.out (HGx.out _ hBq).1 (HGx.out _ hBq).2
    rw [HX.out] at this
    exact this)
  have k0 := cell_regrown HTb2.out.1
  have k1 := cell_regrown HTb2.out.2
  have k2 := cell_regrown HRb.out.1
  have k3 := cell_regrown HRb.out.2.1
  have k4 := cell_regrown HRb.out.2.2
  refine wp_region_quiet_below (by kernel_rfl) (by kernel_rfl) ?_
  repeat (go_big_quiet_step (first | with_reducible exact c0 _ _))
  refine wpQuiet_nil ?_
  intro _ hw'
  obtain ⟨⟨dq, osq⟩, hw''⟩ := hw'
  subst hw''
  obtain ⟨W3, hW3⟩ : ∃ W3, W3 = grow (redrawn W2 dq) osq := ⟨_, rfl⟩
  have hb3 : Below W2.heap.size W2 W3 := by rw [hW3]; exact below_regrown W2 dq osq
  have HTb3 := hide (keepB2 HTb2.out hb3)
  have HRb3 := hide (keepB3 HRb.out hb3)
  have HB3 := hide (HB2.out.trans (hb3.mono HB2.out.size))
  rw [← hW3]
  clear hW3 hb3 c0 k0 k1 k2 k3 k4 HTb2 HRb HB2
  obtain ⟨y0, y1⟩ := HTb3.out
  obtain ⟨z0, z1, z2⟩ := HRb3.out
  have HCalls : Hid (∀ (f : Int) (W : World), Below W1.heap.size W1 W → Calls Tryz.prog 8 #[.agg #[.slice ga gn gc, .slice fa fn fc], .int .i64 f] W fun e w' => ∃ va vc, e = .returned (.slice va (callsF t f).length vc) ∧ IRow W.heap.size w' (.slice va (callsF t f).length vc) (callsF t f) ∧ Below W.heap.size W w') := fun f W hW => by
    refine (callsI_any t _ _ f W (HT.out.below hsz (HB1.out.trans (hW.mono HB1.out.size))) HS.out HW.out (HGx.out W hW).1 (HGx.out W hW).2).mono ?_
    rintro e w' ⟨v, rfl, ho, hb⟩
    have ho' : IRow W.heap.size w' v (callsF t f) := ho
    obtain ⟨va, vc, rfl⟩ := ho'.shape
    exact ⟨va, vc, rfl, ho', hb⟩
  by_cases hx0 : x = 0
  rotate_left 1
  · have hx0' : (x == 0) = false := by simpa using hx0
    by_cases hx1 : x = 1
    · have hno : callsF t 0 = [] := callsF_no (.inr (.inr (check_treeN (by rw [HX1.out]; exact hx1))))
      have HC0 := HCalls.out 0 W3 HB3.out
      rw [hno] at HC0
      have HC0' := hide HC0
      subst hx1
      clear HC0 hno hx0 hx0'
      go_wp2_with fail
      refine HC0'.out.mono ?_
      rintro e w4 ⟨va, vc, rfl, -, hb4⟩
      go_wp2_with fail
      go_ret
      exact ⟨rfl, (HB1.out.trans (HB3.out.mono HB1.out.size)).trans (hb4.mono (Nat.le_trans HB1.out.size HB3.out.size))⟩
    · have hx1' : (x == 1) = false := by simpa using hx1
      go_wp2_with fail
      go_ret
      exact ⟨rfl, HB1.out.trans (HB3.out.mono HB1.out.size)⟩
  subst hx0
  obtain ⟨m, hm, hml, hac⟩ := sound_main HX1.out
  have hbt : treeB t = true := sound_tr HX1.out
  have HAc := hide hac
  have HM : Hid (fnumI t.funcs mainS = m) := fnumI_some hm
  clear hac hm
  go_wp2_with fail
  refine (lwMain_any t.funcs _ _ W3 (by omega) (HGx.out W3 HB3.out).2).mono ?_
  rintro e w4 ⟨rfl, hb4⟩
  rw [HM.out]
  have HB4 := hide (HB3.out.trans (hb4.mono HB3.out.size))
  have HT4 := hide (keepB2 HTb3.out hb4)
  have HL0 := hide (irow_oneN w4 m)
  clear hb4 HRb3 HTb3 y0 y1 z0 z1 z2 HX HX1 HM
  go_wp2_with fail
  go_loopw [5, 6] (fun lv i wr => ∃ (va : Option Addr) (vn vc : Nat) (L : List Nat) (k : Nat), lv = .slice va vn vc ∧ vn = L.length ∧ i = .int .i64 k ∧ k ≤ L.length ∧ Liv t m L ∧ IRow w4.heap.size wr lv L ∧ Below w4.heap.size w4 wr) (fun _ i _ => t.funcs.length - (RowKit.intOf i).toNat)
  case atStart => exact ⟨_, _, _, [m], 0, rfl, rfl, rfl, by simp, Liv.start hml, HL0.out, (Below.refl _ _).alloc (Nat.le_refl _) _⟩
  case round =>
    obtain ⟨va, vn, vc, L, k, rfl, hvn, rfl, hk, hLv, hrow, hbel⟩ := hrel
    rename World => Wr
    have HLv := hide hLv
    have HRow := hide hrow
    have HBel := hide hbel
    have hLn := hLv.len
    have HN := hide hvn
    have hB1r : Below W1.heap.size W1 Wr := HB4.out.trans (hbel.mono HB4.out.size)
    have HTr := hide (keepB2 HT4.out hbel)
    have hszr := hbel.size
    clear hLv hbel
    by_cases hlt : k < L.length
    · obtain ⟨b5, c5, e5, -, hb5', x5⟩ := irow_cell hrow k hlt
      simp only [Value.slice.injEq] at e5
      obtain ⟨rfl, -, rfl⟩ := e5
      have hxm : L[k] ∈ L := List.getElem_mem hlt
      generalize L[k] = xk at x5 hxm
      have hkv : k < vn := by omega
      have hkn : (k : Int) < (t.funcs.length : Int) := by omega
      obtain ⟨t0, t1⟩ := HTr.out
      have HC := hide (HCalls.out xk Wr.drew (hB1r.trans ((Below.refl _ _).drew)))
      obtain ⟨C, hC⟩ : ∃ C, C = callsF t xk := ⟨_, rfl⟩
      have HCe := hide hC
      rw [← hC] at HC
      obtain ⟨cn, hcn⟩ : ∃ cn, cn = C.length := ⟨_, rfl⟩
      rw [← hcn] at HC
      have HCn := hide hcn
      have hcn20 : cn ≤ 20 := by rw [hcn, hC]; exact Nat.le_trans (callsF_len t xk) hnf
      have hl3 : P3 < Wr.heap.size := World.block_lt_of_cell? _ _ t0
      clear hC hcn hrow hvn HL0
      go_wp2_with fail
      go_region_held (fun W => W.cell? ⟨P3, 0, none⟩ = some (.slice ga gn gc) ∧ W.cell? ⟨P3, 1, none⟩ = some (.slice fa fn fc) ∧ W.cell? ⟨b5, k, none⟩ = some (.int .i64 (xk : Int))) (go_keep)
        (first
        | ((with_reducible refine Calls.mono HC.out ?_); intro e w5 hx; obtain ⟨ua, uc, hue, hr5, hb5⟩ := hx; subst hue; have q := And.intro ((hb5.cell (p := ⟨P3, 0, none⟩) hl3).trans t0) (And.intro ((hb5.cell (p := ⟨P3, 1, none⟩) hl3).trans t1) ((hb5.cell (p := ⟨b5, k, none⟩) hb5').trans x5))))
      have HR5 := hide hr5
      have hbw5 : Below Wr.heap.size Wr w5 := (Below.refl _ _).drew.trans hb5
      have HA : Hid (Adg (fun L => Liv t m L ∧ xk ∈ L) w4.heap.size w4 Wr.heap.size (.slice ua cn uc) C k (.slice (some ⟨b5, 0, none⟩) vn vc) L w5) := ⟨⟨HLv.out, hxm⟩, HRow.out.below hbw5, HBel.out.trans (hbw5.mono hszr), hr5, fun b hb e => by
        simp only [Value.ownBlock, Option.some.injEq] at hb
        have := (irow_rng hr5 b e).1
        have h2 : Wr.drew.heap.size = Wr.heap.size := rfl
        omega, hlt⟩
      clear hr5 hb5 hbw5 q t0 t1 x5 hl3 HRow HBel HLv HTr HC hk
      go_wp2_with fail
      go_loopw [5, 8] (fun lv j ws => ∃ (va : Option Addr) (vn vc : Nat) (L' : List Nat) (q : Nat), lv = .slice va vn vc ∧ vn = L'.length ∧ j = .int .i64 q ∧ q ≤ cn ∧ Adg (fun L => Liv t m L ∧ xk ∈ L) w4.heap.size w4 Wr.heap.size (.slice ua cn uc) C k lv L' ws) (fun _ j _ => cn - (RowKit.intOf j).toNat)
      case atStart => exact ⟨_, _, _, L, 0, rfl, HN.out, rfl, Nat.zero_le _, HA.out⟩
      case round =>
        obtain ⟨va, vn, vc, L', q, rfl, hvn, rfl, hq, hA⟩ := hrel
        rename World => Ws
        clear HA
        have HA := hide hA
        have HN' := hide hvn
        have hLn' := hA.pr.1.len
        by_cases hlq : q < cn
        · obtain ⟨b7, c7, e7, -, hb7, x7⟩ := irow_cell hA.cr q (by rw [← HCn.out]; exact hlq)
          simp only [Value.slice.injEq] at e7
          obtain ⟨rfl, -, rfl⟩ := e7
          have hym : C[q]'(by rw [← HCn.out]; exact hlq) ∈ C := List.getElem_mem _
          generalize C[q]'(by rw [← HCn.out]; exact hlq) = yk at x7 hym
          have HH := hide (lwHas_any (L'.map (fun g : Nat => (g : Int))) (.slice va vn vc) (yk : Int) Ws (by rw [List.length_map]; omega) hA.row.ints)
          clear hA hvn
          by_cases hin : yk ∈ L'
          · rw [decide_eq_true (mem_cast.2 hin)] at HH
            go_wp2_with fail
            refine HH.out.mono ?_
            rintro e w8 ⟨rfl, hb8⟩
            have HA8 := hide (HA.out.below (Nat.le_refl _) hb8)
            clear hb8 HH x7
            go_wp2_with fail
            go_roundw
            case rel => exact ⟨_, _, _, L', q + 1, rfl, HN'.out, by go_num, by omega, HA8.out⟩
            case measure => simp [RowKit.intOf]; omega
          · rw [decide_eq_false (fun h => hin (mem_cast.1 h))] at HH
            go_wp2_with fail
            refine HH.out.mono ?_
            rintro e w8 ⟨rfl, hb8⟩
            have hA8 := HA.out.below (Nat.le_refl _) hb8
            have x8 := (hb8.cell (p := ⟨b7, q, none⟩) hb7).trans x7
            obtain ⟨za, zn, zc, w9, r9, hzn, hA9⟩ := hA8.app (Nat.le_refl _) yk (by omega) ⟨hA8.pr.1.add hA8.pr.2 hbt (by rw [← HCe.out]; exact hym) hin, List.mem_append_left _ hA8.pr.2⟩
            have Hr9 := hide r9
            have HA9 := hide hA9
            have HZn := hide hzn
            clear r9 hA9 hzn hA8 hb8 HH x7
            go_wp2_with (at_builtin; refine wpList_appG rfl (.tmp 65) (.tmp 70) _ rfl _ _ _ _ rfl rfl Hr9.out ?_)
            go_roundw
            case rel => exact ⟨_, _, _, L' ++ [yk], q + 1, rfl, HZn.out, by go_num, by omega, HA9.out⟩
            case measure => simp [RowKit.intOf]; omega
        · go_wp2_with fail
          go_roundw
          case rel => exact ⟨_, _, _, L', k + 1, rfl, HN'.out, by go_num, HA.out.kl, HA.out.pr.1, HA.out.row, HA.out.bel⟩
          case measure => simp [RowKit.intOf]; omega
    · have hkv : ¬ (k : Int) < (vn : Int) := by omega
      have hvn20 : vn ≤ 20 := by omega
      obtain ⟨t0, t1⟩ := HTr.out
      clear hlt hk HL0 hrow hvn
      go_wp2_with fail
      go_loopw [9] (fun i ws => ∃ k : Nat, i = .int .i64 k ∧ k ≤ vn ∧ Below Wr.heap.size Wr ws) (fun i _ => vn - (RowKit.intOf i).toNat)
      case atStart => exact ⟨0, rfl, Nat.zero_le _, Below.refl _ _⟩
      case round =>
        obtain ⟨k, rfl, hk, hbs⟩ := hrel
        rename World => Ws
        have HBs := hide hbs
        have hB1s : Below W1.heap.size W1 Ws := hB1r.trans (hbs.mono hB1r.size)
        have HTs := hide (keepB2 HTr.out hbs)
        have HRs := hide (HRow.out.below hbs)
        have hszs := hbs.size
        clear hbs t0 t1
        by_cases hlt : k < vn
        · obtain ⟨b5, c5, e5, -, hb5', x5⟩ := irow_cell HRs.out k (by rw [← HN.out]; exact hlt)
          simp only [Value.slice.injEq] at e5
          obtain ⟨rfl, -, rfl⟩ := e5
          have hxm : L[k]'(by rw [← HN.out]; exact hlt) ∈ L := List.getElem_mem _
          generalize L[k]'(by rw [← HN.out]; exact hlt) = xk at x5 hxm
          have hnx : ¬ Rch t xk xk := HAc.out xk (HLv.out.come xk hxm)
          have hxl := HLv.out.lt xk hxm
          obtain ⟨t0, t1⟩ := HTs.out
          have HC := hide (HCalls.out xk Ws.drew (hB1s.trans ((Below.refl _ _).drew)))
          obtain ⟨F0, hF0⟩ : ∃ C, C = callsF t xk := ⟨_, rfl⟩
          have HFr : Hid (Frm t xk F0) := by rw [hF0]; exact Frm.start hxl hbt
          rw [← hF0] at HC
          obtain ⟨cn, hcn⟩ : ∃ cn, cn = F0.length := ⟨_, rfl⟩
          rw [← hcn] at HC
          have HCn := hide hcn
          have hl3 : P3 < Ws.heap.size := World.block_lt_of_cell? _ _ t0
          have HX5 : Hid (∀ W, Below Ws.heap.size Ws W → W.cell? ⟨b5, k, none⟩ = some (.int .i64 (xk : Int))) := fun W hW => (hW.cell (p := ⟨b5, k, none⟩) hb5').trans x5
          have HTx : Hid (∀ W, Below Ws.heap.size Ws W → W.cell? ⟨P3, 0, none⟩ = some (.slice ga gn gc) ∧ W.cell? ⟨P3, 1, none⟩ = some (.slice fa fn fc)) := fun W hW => keepB2 HTs.out hW
          clear hF0 hcn
          go_wp2_with fail
          go_region_held (fun W => W.cell? ⟨P3, 0, none⟩ = some (.slice ga gn gc) ∧ W.cell? ⟨P3, 1, none⟩ = some (.slice fa fn fc) ∧ W.cell? ⟨b5, k, none⟩ = some (.int .i64 (xk : Int))) (go_keep)
            (first
            | ((with_reducible refine Calls.mono HC.out ?_); intro e w5 hx; obtain ⟨ua, uc, hue, hr5, hb5⟩ := hx; subst hue; have q := And.intro ((hb5.cell (p := ⟨P3, 0, none⟩) hl3).trans t0) (And.intro ((hb5.cell (p := ⟨P3, 1, none⟩) hl3).trans t1) ((hb5.cell (p := ⟨b5, k, none⟩) hb5').trans x5))))
          have hr5' : IRow Ws.heap.size w5 (.slice ua cn uc) F0 := hr5
          have HR5 := hide hr5'
          have HBw5 : Hid (Below Ws.heap.size Ws w5) := (Below.refl _ _).drew.trans hb5
          clear hr5 hr5' hb5 q t0 t1 x5 hl3 HC
          go_wp2_with fail
          go_loopw [10, 11] (fun fv j ws => ∃ (fa' : Option Addr) (fn' fc' : Nat) (F : List Nat) (q : Nat), fv = .slice fa' fn' fc' ∧ fn' = F.length ∧ j = .int .i64 q ∧ q ≤ F.length ∧ Frm t xk F ∧ IRow Ws.heap.size ws fv F ∧ Below Ws.heap.size Ws ws) (fun _ j _ => t.funcs.length - (RowKit.intOf j).toNat)
          case atStart => exact ⟨_, _, _, F0, 0, rfl, HCn.out, rfl, Nat.zero_le _, HFr.out, HR5.out, HBw5.out⟩
          case round =>
            obtain ⟨fa', fn', fc', F, q, rfl, hfn, rfl, hq, hFm, hrow, hbq⟩ := hrel
            rename World => Wq
            have HFm := hide hFm
            have HRow' := hide hrow
            have HBq := hide hbq
            have hFl := hFm.len
            have HFn := hide hfn
            have hszq := hbq.size
            have hB1q : Below W1.heap.size W1 Wq := hB1s.trans (hbq.mono hB1s.size)
            clear HR5 HBw5 hbq
            by_cases hlq : q < F.length
            · obtain ⟨b6, c6, e6, -, hb6', x6⟩ := irow_cell hrow q hlq
              simp only [Value.slice.injEq] at e6
              obtain ⟨rfl, -, rfl⟩ := e6
              have hym : F[q] ∈ F := List.getElem_mem _
              generalize F[q] = yk at x6 hym
              have hyx : ((yk : Int) == (xk : Int)) = false := by
                have : yk ≠ xk := fun e => hnx (e ▸ hFm.come yk hym)
                simp
                omega
              have hqn : q < fn' := by omega
              have hqn2 : (q : Int) < (t.funcs.length : Int) := by omega
              have x5 := HX5.out Wq HBq.out
              obtain ⟨t0, t1⟩ := HTx.out Wq HBq.out
              have k0 := cell_regrown x5
              have k1 := cell_regrown x6
              clear hFm hfn hrow
              go_wp2_with fail
              refine wp_region_quiet_below (by kernel_rfl) (by kernel_rfl) ?_
              repeat (go_big_quiet_step (fail))
              refine wpQuiet_nil ?_
              intro _ hw'
              obtain ⟨⟨dq, osq⟩, hw''⟩ := hw'
              subst hw''
              obtain ⟨Wv, hWv⟩ : ∃ Wv, Wv = grow (redrawn Wq dq) osq := ⟨_, rfl⟩
              have hbv : Below Wq.heap.size Wq Wv := by rw [hWv]; exact below_regrown Wq dq osq
              rw [← hWv]
              have hRv := HRow'.out.below hbv
              have hBv : Below Ws.heap.size Ws Wv := HBq.out.trans (hbv.mono hszq)
              have hB1v : Below W1.heap.size W1 Wv := hB1q.trans (hbv.mono hB1q.size)
              have x6v := (hbv.cell (p := ⟨b6, q, none⟩) hb6').trans x6
              have hb6v : b6 < Wv.heap.size := Nat.lt_of_lt_of_le hb6' hbv.size
              clear k0 k1 x5 x6 t0 t1 hWv
              obtain ⟨t0, t1⟩ := HTx.out Wv hBv
              have HC := hide (HCalls.out yk Wv.drew (hB1v.trans ((Below.refl _ _).drew)))
              obtain ⟨C, hC⟩ : ∃ C, C = callsF t yk := ⟨_, rfl⟩
              have HCe := hide hC
              rw [← hC] at HC
              obtain ⟨cm, hcm⟩ : ∃ cm, cm = C.length := ⟨_, rfl⟩
              rw [← hcm] at HC
              have HCm := hide hcm
              have hcm20 : cm ≤ 20 := by rw [hcm, hC]; exact Nat.le_trans (callsF_len t yk) hnf
              have hl3 : P3 < Wv.heap.size := World.block_lt_of_cell? _ _ t0
              have HRv := hide hRv
              have HBv := hide hBv
              have hszv := hBv.size
              clear hC hcm hRv hBv hbv
              go_wp2_with fail
              go_region_held (fun W => W.cell? ⟨P3, 0, none⟩ = some (.slice ga gn gc) ∧ W.cell? ⟨P3, 1, none⟩ = some (.slice fa fn fc) ∧ W.cell? ⟨b6, q, none⟩ = some (.int .i64 (yk : Int))) (go_keep)
                (first
                | ((with_reducible refine Calls.mono HC.out ?_); intro e w5 hx; obtain ⟨ua, uc, hue, hr5, hb5⟩ := hx; subst hue; have qq := And.intro ((hb5.cell (p := ⟨P3, 0, none⟩) hl3).trans t0) (And.intro ((hb5.cell (p := ⟨P3, 1, none⟩) hl3).trans t1) ((hb5.cell (p := ⟨b6, q, none⟩) hb6v).trans x6v))))
              have hbw5 : Below Wv.heap.size Wv w5 := (Below.refl _ _).drew.trans hb5
              have HA : Hid (Adg (fun L => Frm t xk L ∧ yk ∈ L) Ws.heap.size Ws Wv.heap.size (.slice ua cm uc) C q (.slice (some ⟨b6, 0, none⟩) fn' fc') F w5) := ⟨⟨HFm.out, hym⟩, HRv.out.below hbw5, HBv.out.trans (hbw5.mono hszv), hr5, fun b hb e => by
                simp only [Value.ownBlock, Option.some.injEq] at hb
                have := (irow_rng hr5 b e).1
                have h2 : Wv.drew.heap.size = Wv.heap.size := rfl
                omega, hlq⟩
              clear hr5 hb5 hbw5 qq t0 t1 x6v hl3 HRv HBv HC hq
              go_wp2_with fail
              go_loopw [10, 13] (fun lv j ws => ∃ (va : Option Addr) (vn vc : Nat) (L' : List Nat) (q' : Nat), lv = .slice va vn vc ∧ vn = L'.length ∧ j = .int .i64 q' ∧ q' ≤ cm ∧ Adg (fun L => Frm t xk L ∧ yk ∈ L) Ws.heap.size Ws Wv.heap.size (.slice ua cm uc) C q lv L' ws) (fun _ j _ => cm - (RowKit.intOf j).toNat)
              case atStart => exact ⟨_, _, _, F, 0, rfl, HFn.out, rfl, Nat.zero_le _, HA.out⟩
              case round =>
                obtain ⟨va', vn', vc', L', q', rfl, hvn, rfl, hq, hA⟩ := hrel
                rename World => Wz
                clear HA
                have HA := hide hA
                have HN' := hide hvn
                have hLn' := hA.pr.1.len
                by_cases hlq' : q' < cm
                · obtain ⟨b7, c7, e7, -, hb7, x7⟩ := irow_cell hA.cr q' (by rw [← HCm.out]; exact hlq')
                  simp only [Value.slice.injEq] at e7
                  obtain ⟨rfl, -, rfl⟩ := e7
                  have hzm : C[q']'(by rw [← HCm.out]; exact hlq') ∈ C := List.getElem_mem _
                  generalize C[q']'(by rw [← HCm.out]; exact hlq') = zk at x7 hzm
                  have HH := hide (lwHas_any (L'.map (fun g : Nat => (g : Int))) (.slice va' vn' vc') (zk : Int) Wz (by rw [List.length_map]; omega) hA.row.ints)
                  clear hA hvn
                  by_cases hin : zk ∈ L'
                  · rw [decide_eq_true (mem_cast.2 hin)] at HH
                    go_wp2_with fail
                    refine HH.out.mono ?_
                    rintro e w8 ⟨rfl, hb8⟩
                    have HA8 := hide (HA.out.below (Nat.le_refl _) hb8)
                    clear hb8 HH x7
                    go_wp2_with fail
                    go_roundw
                    case rel => exact ⟨_, _, _, L', q' + 1, rfl, HN'.out, by go_num, by omega, HA8.out⟩
                    case measure => simp [RowKit.intOf]; omega
                  · rw [decide_eq_false (fun h => hin (mem_cast.1 h))] at HH
                    go_wp2_with fail
                    refine HH.out.mono ?_
                    rintro e w8 ⟨rfl, hb8⟩
                    have hA8 := HA.out.below (Nat.le_refl _) hb8
                    have x8 := (hb8.cell (p := ⟨b7, q', none⟩) hb7).trans x7
                    obtain ⟨za, zn, zc, w9, r9, hzn, hA9⟩ := hA8.app (Nat.le_refl _) zk (by omega) ⟨hA8.pr.1.add hA8.pr.2 hbt (by rw [← HCe.out]; exact hzm) hin, List.mem_append_left _ hA8.pr.2⟩
                    have Hr9 := hide r9
                    have HA9 := hide hA9
                    have HZn := hide hzn
                    clear r9 hA9 hzn hA8 hb8 HH x7
                    go_wp2_with (at_builtin; refine wpList_appG rfl (.tmp 118) (.tmp 123) _ rfl _ _ _ _ rfl rfl Hr9.out ?_)
                    go_roundw
                    case rel => exact ⟨_, _, _, L' ++ [zk], q' + 1, rfl, HZn.out, by go_num, by omega, HA9.out⟩
                    case measure => simp [RowKit.intOf]; omega
                · go_wp2_with fail
                  go_roundw
                  case rel => exact ⟨_, _, _, L', q + 1, rfl, HN'.out, by go_num, HA.out.kl, HA.out.pr.1, HA.out.row, HA.out.bel⟩
                  case measure => simp [RowKit.intOf]; omega
            · have hqv : ¬ (q : Int) < (fn' : Int) := by omega
              go_wp2_with fail
              go_roundw
              case rel => exact ⟨k + 1, by go_num, hlt, HBs.out.trans (HBq.out.mono hszs)⟩
              case measure => simp [RowKit.intOf]; omega
        · have hkv2 : ¬ (k : Int) < (vn : Int) := by omega
          go_wp2_with fail
          go_ret
          exact ⟨rfl, HB1.out.trans ((hB1s).mono HB1.out.size)⟩
end
section
open Go.RowKit
set_option maxHeartbeats 1000000 in
theorem check_big (a : Option Addr) (len cap : Nat) (w : World) (hl : (1048576 : Int) < len) (hm : len ≤ 9223372036854775807) :
    Calls Tryz.prog 3 #[.slice a len cap] w fun e w' => e = .returned (.bool true) ∧ Below w.heap.size w w' := by
  go_enter Tryz.func3, Tryz.ntmps3
  go_wp2_with fail
  go_ret
  exact ⟨rfl, Below.refl _ _⟩
theorem walk_check (a : Option Addr) (len cap : Nat) (w : World) (hT : Tab w) (hE : ErrT w) (hm : len ≤ 9223372036854775807) (hb : B8 w a len) :
    Calls Tryz.prog 3 #[.slice a len cap] w fun e w' => e = .returned (.bool true) ∧ Below w.heap.size w w' := by
  haveI : Inhabited Pick := ⟨⟨fun _ h => Classical.choice h⟩⟩
  by_cases h : len ≤ 1048576
  · exact law_fncheck a len cap w hT hE h (draw_check a len cap w h hb)
  · exact check_big a len cap w (by omega) hm
end
end Go.Proofs.YtjhmgjimppflhaaGreatDoor
