import Derived.Test.YtjhmgjimppflhaaGreatDoorZ31
import Derived.Test.YtjhmgjimppflhaaGreatDoorZ33
set_option linter.unusedSectionVars false
variable [Inhabited Go.Proofs.YtjhmgjimppflhaaGreatDoor.Pick]
namespace Go.Proofs.YtjhmgjimppflhaaGreatDoor
set_option linter.unusedVariables false
set_option linter.unusedSimpArgs false
set_option maxRecDepth 100000
set_option maxHeartbeats 16000000
section
open Go.RowKit
theorem td_shape {S : Nat → Prop} {w : World} {vg vf : Value} {t : Tr} (h : TD S w vg vf t) : ∃ ga gn gc fa fn fc, vg = .slice ga gn gc ∧ vf = .slice fa fn fc := by
  obtain ⟨ga, gc, e, -⟩ := h.gs w (Tcs.refl _ _)
  obtain ⟨fb, foff, fc, Q, ef, -⟩ := h.fs
  exact ⟨_, _, _, _, _, _, e, ef⟩
theorem tw_shape {S : Nat → Prop} {w : World} {vg vf : Value} {t : Tr} (h : TW S w vg vf t) : ∃ ga gn gc fa fn fc, vg = .slice ga gn gc ∧ vf = .slice fa fn fc := by
  obtain ⟨ga, gc, e, -⟩ := h.gs w (Tcs.refl _ _)
  obtain ⟨fa, fc, ef, -⟩ := h.fs w (Tcs.refl _ _)
  exact ⟨_, _, _, _, _, _, e, ef⟩
theorem TW.less {S S' : Nat → Prop} {w : World} {vg vf : Value} {t : Tr} (h : TW S w vg vf t) (hs : ∀ k, S' k → S k) : TW S' w vg vf t := ⟨fun W hW => h.gs W (hW.mono hs), fun W hW => h.fs W (hW.mono hs), h.gl, h.gn, h.fl, h.ok⟩
/-- The box of the answer. -/
theorem res_box (w : World) : ∃ W0 R2, W0 = w.alloc (.cells #[.slice none 0 0, .slice none 0 0] 26) ∧ R2 = w.heap.size ∧ FrC W0 R2 [.slice none 0 0, .slice none 0 0] ∧ Below w.heap.size w W0 ∧ W0.heap.size = w.heap.size + 1 :=
  ⟨_, _, rfl, rfl, box_fr w _ _ (by simp), (Below.refl _ _).alloc (Nat.le_refl _) _, by simp⟩
/-- The answer, put into its box. -/
theorem res_put {M R2 : Nat} {w3 : World} {o1 o2 vg vf : Value} {t : Tr} (hf : FrC w3 R2 [o1, o2]) (ht : TW (fun k => k < M) w3 vg vf t) (hR : R2 < M) :
    (w3.cell? ⟨R2, 0, none⟩ = some o1 ∧ w3.frozen? ⟨R2, 0, none⟩ = false ∧ w3.cell? ⟨R2, 1, none⟩ = some o2 ∧ w3.frozen? ⟨R2, 1, none⟩ = false) ∧ ∃ W, W = (w3.setCell ⟨R2, 0, none⟩ vg).setCell ⟨R2, 1, none⟩ vf ∧ (W.cell? ⟨R2, 0, none⟩ = some vg ∧ W.cell? ⟨R2, 1, none⟩ = some vf) ∧ TW (fun k => k < M) W vg vf t ∧ Tcs (fun k => k = R2) w3 W := by
  have hf2 := (hf.set 0 vg).set 1 vf
  have tS : Tcs (fun k => k = R2) w3 ((w3.setCell ⟨R2, 0, none⟩ vg).setCell ⟨R2, 1, none⟩ vf) := ((Tcs.refl (fun k => k = R2) w3).setCell (p := ⟨R2, 0, none⟩) rfl _).setCell (p := ⟨R2, 1, none⟩) rfl _
  exact ⟨⟨(hf 0 _ rfl).1, (hf 0 _ rfl).2, (hf 1 _ rfl).1, (hf 1 _ rfl).2⟩, _, rfl, ⟨(hf2 0 _ rfl).1, (hf2 1 _ rfl).1⟩, ht.tcs (tS.mono fun k hk => by omega), tS⟩
end
section
open Go.RowKit
set_option maxRecDepth 100000 in
set_option maxHeartbeats 4000000 in
theorem draw_check (a : Option Addr) (len cap : Nat) (w : World) (hl : len ≤ 1048576) (hb : B8 w a len) :
    Calls Tryz.prog 5 #[.slice a len cap] w fun e w' => ∃ vg vf t, e = .returned (.agg #[vg, vf]) ∧ TW (fun _ => False) w' vg vf t ∧ Below w.heap.size w w' := by
  obtain ⟨W0, R2, hW0, hR2, hf, hb0, hs0⟩ := res_box w
  have HW0 := hide hW0
  have HR2 := hide hR2
  have HF := hide hf
  have HB0 := hide hb0
  have HS0 : Hid (W0.heap.size = w.heap.size + 1) := hs0
  have HB8 := hide (hb.below hb0)
  clear hW0 hR2 hf hb0 hs0 hb
  go_enter Tryz.func5, Tryz.ntmps5
  go_upto_region 1 with fail
  rw [← HW0.out, ← HR2.out]
  clear HW0
  go_wp2_with fail
  refine (new_any a len cap W0 hl HB8.out).mono ?_
  rintro e w1 ⟨rfl, hc1, hb1, hs1, hlo1⟩
  obtain ⟨g, hg⟩ : ∃ g, g = W0.heap.size := ⟨_, rfl⟩
  rw [← hg] at hc1 hlo1 hs1 ⊢
  have hS0 : S0 g g := rfl
  have HG := hide hg
  have HC1 := hide hc1
  have HL1 : Hid (Lo g a len (S0 g) w1.heap.size) := hlo1
  have HS1 : Hid (w1.heap.size = g + 1) := hs1
  have HB1 := hide (HB0.out.trans (hb1.mono HB0.out.size))
  have HF1 := hide (HF.out.below hb1)
  clear hg hc1 hlo1 hs1 hb1 HF HB8 HB0
  go_wp2_with fail
  refine (tree_any g a len cap w1 hl HL1.out HC1.out).mono ?_
  rintro e w2 ⟨vg, vf, rfl, ⟨t, ht⟩, hd2⟩
  obtain ⟨ga, gn, gc, fa, fn, fc, rfl, rfl⟩ := td_shape ht
  have hs2 := hd2.tcs.size
  have hRg : R2 ≠ g := by have := HR2.out; have := HG.out; have := HS0.out; omega
  have hRM : R2 < w1.heap.size := by have := HR2.out; have := HG.out; have := HS0.out; have := HS1.out; omega
  have hgM : g < w1.heap.size := by have := HS1.out; omega
  obtain ⟨W2, hW2⟩ : ∃ W2, W2 = w2.alloc (.cells #[.slice ga gn gc, .slice fa fn fc] 26) := ⟨_, rfl⟩
  have hb2 : Below w2.heap.size w2 W2 := by rw [hW2]; exact (Below.refl _ _).alloc (Nat.le_refl _) _
  have HT2 := hide (ht.tcs hb2.tcs)
  have HD2 := hide (hd2.below hb2)
  have hf4 : FrC W2 w2.heap.size [.slice ga gn gc, .slice fa fn fc] := by rw [hW2]; exact box_fr w2 _ _ (by simp)
  have hf2 : FrC W2 R2 [.slice none 0 0, .slice none 0 0] := (HF1.out.tcs hRM hd2.tcs (fun e => hRg e)).below hb2
  have hw4 : w2.heap.size < W2.heap.size := by rw [hW2]; simp
  obtain ⟨B4, hB4⟩ : ∃ B4, B4 = w2.heap.size := ⟨_, rfl⟩
  rw [← hB4] at hf4 hw4
  have hg4 : B4 ≠ g := by omega
  have hM4 : w1.heap.size ≤ B4 := by omega
  have H4 := hide hf4
  have H2 := hide hf2
  have HW2 := hide hW2
  have HB4 := hide hB4
  clear hd2 ht hW2 hf4 hf2 hb2 HF1 hB4
  go_upto_region 3 with fail
  rw [← HW2.out, ← HB4.out]
  clear HW2
  go_wp2_with fail
  refine (below_any g a len cap (S0 g) _ _ hl hS0 HD2.out.cur ⟨by decide, by decide⟩).mono ?_
  rintro e w3 ⟨x, rfl, hx, hd3⟩
  have hs3 := hd3.tcs.size
  have HT3 := hide (HT2.out.tcs (hd3.tcs.mono fun k hk => by have e : k = g := hk; omega))
  have HD3 := hide (HD2.out.trans hd3)
  have hf4 : FrC w3 B4 [.slice ga gn gc, .slice fa fn fc] := H4.out.tcs hw4 hd3.tcs (fun e => hg4 e)
  have hf2 : FrC w3 R2 [.slice none 0 0, .slice none 0 0] := H2.out.tcs (by omega) hd3.tcs (fun e => hRg e)
  have p0 := (hf4 0 _ rfl).1
  have p1 := (hf4 1 _ rfl).1
  have H2' := hide hf2
  clear hd3 hf4 hf2 H4 H2 HT2 HD2
  have hBg : ∀ k, S0 g k → w.heap.size ≤ k := fun k hk => by have e : k = g := hk; have := HG.out; have := HS0.out; omega
  have hBR : ∀ k, k = R2 → w.heap.size ≤ k := fun k hk => by have := HR2.out; omega
  by_cases hpos : 0 < x
  · go_wp2_with fail
    refine (spoil_any g w1.heap.size a len cap _ _ t w3 hl ⟨hgM, by omega⟩ (HL1.out.mono (by omega)) HD3.out.cur HT3.out).mono ?_
    rintro e w4 ⟨vg', vf', rfl, ⟨t', ht'⟩, hd4⟩
    obtain ⟨ga', gn', gc', fa', fn', fc', rfl, rfl⟩ := tw_shape ht'
    have hf3 : FrC w4 R2 [.slice none 0 0, .slice none 0 0] := H2'.out.tcs (by omega) hd4.tcs (fun e => hRg e)
    obtain ⟨⟨z0, z1, z2, z3⟩, W, hW, ⟨e0, e1⟩, ht, hS⟩ := res_put hf3 ht' hRM
    have HW := hide hW
    have HE := hide (And.intro e0 e1)
    have HT := hide ht
    have hs4 := hd4.tcs.size
    have HFin : Hid (Below w.heap.size w W) := hS.below ((HD3.out.trans hd4).tcs.below HB1.out HB1.out.size hBg) (by have := HB1.out.size; omega) hBR
    clear hW e0 e1 ht hS hd4 ht' hf3
    go_wp2_with fail
    rw [← HW.out]
    refine bodyPost_ret (by simp [results, Tryz.results5, go_sem, HE.out.1, HE.out.2]; try rfl) rfl ?_
    exact ⟨_, _, _, rfl, HT.out.less (fun k hk => hk.elim), HFin.out⟩
  · obtain ⟨⟨z0, z1, z2, z3⟩, W, hW, ⟨e0, e1⟩, ht, hS⟩ := res_put H2'.out HT3.out.tw hRM
    have HW := hide hW
    have HE := hide (And.intro e0 e1)
    have HT := hide ht
    have HFin : Hid (Below w.heap.size w W) := hS.below (HD3.out.tcs.below HB1.out HB1.out.size hBg) (by have := HB1.out.size; omega) hBR
    clear hW e0 e1 ht hS
    go_wp2_with fail
    rw [← HW.out]
    refine bodyPost_ret (by simp [results, Tryz.results5, go_sem, HE.out.1, HE.out.2]; try rfl) rfl ?_
    exact ⟨_, _, _, rfl, HT.out.less (fun k hk => hk.elim), HFin.out⟩
end
section
open Go.RowKit
theorem box3K {w w' : World} {t : TypeId} {a b c : Value} (h : Below (w.heap.size + 1) (w.alloc (.cells #[a, b, c] t)) w') :
    w'.cell? ⟨w.heap.size, 0, none⟩ = some a ∧ w'.cell? ⟨w.heap.size, 1, none⟩ = some b ∧ w'.cell? ⟨w.heap.size, 2, none⟩ = some c := by
  refine ⟨?_, ?_, ?_⟩ <;> (rw [h.cell (by simp)]; simp)
theorem nodeE_call {t : Tr} {scope : List ByteArray} {vl : Int} {nm : ByteArray} {i : Nat} (h : fnum t.funcs nm = some i) (hi : i < t.funcs.length) : nodeE t scope ⟨4, vl, nm⟩ = if ((t.funcs[i].params.length : Nat) : Int) = vl then 0 else 6 := by
  unfold nodeE
  simp only
  rw [if_neg (by omega), if_pos trivial, h]
  simp [List.getD, hi]
theorem nodeE_nocall {t : Tr} {scope : List ByteArray} {vl : Int} {nm : ByteArray} (h : fnum t.funcs nm = none) : nodeE t scope ⟨4, vl, nm⟩ = 4 := by
  unfold nodeE
  simp only
  rw [if_neg (by omega), if_pos trivial, h]
set_option maxRecDepth 100000 in
set_option maxHeartbeats 4000000 in
theorem l3expr_any (t : Tr) (scope : List ByteArray) (ns : List Nd) (vg vf vs ve : Value) (w : World) (hgl : t.globals.length ≤ 1048576) (hfl : t.funcs.length ≤ 1048576) (hsl : scope.length ≤ 10000000) (hnl : ns.length ≤ 1048576)
    (hg : Globs w vg t.globals) (hf : Funcs w vf t.funcs) (hs : Strs w vs scope) (hn : Nodes w ve ns) :
    Calls Tryz.prog 84 #[.agg #[vg, vf], vs, ve] w fun e w' => e = .returned (.int .i64 (exprE t scope ns)) ∧ Below w.heap.size w w' := by
  have HG : Hid (Globs w vg t.globals) := hg
  have HF : Hid (Funcs w vf t.funcs) := hf
  have HS : Hid (Strs w vs scope) := hs
  obtain ⟨ag, cg, rfl, -, -, -⟩ := hg
  obtain ⟨af, cf, rfl, -, -, hfc⟩ := hf
  obtain ⟨az, cz, rfl, -, -, -⟩ := hs
  obtain ⟨an, cn, rfl, -, -, hnc⟩ := hn
  have HFC : Hid (0 < t.funcs.length → ∃ b off, af = some ⟨b, off, none⟩ ∧ FuncsC w b off t.funcs) := hfc
  have HNC : Hid (0 < ns.length → ∃ b off, an = some ⟨b, off, none⟩ ∧ NodesC w b off ns) := hnc
  clear hfc hnc
  obtain ⟨ng, hng⟩ : ∃ ng, ng = t.globals.length := ⟨_, rfl⟩
  go_enter Tryz.func84, Tryz.ntmps84
  go_wp2_with fail
  clear hng
  go_loopw [7] (fun i wr => ∃ k : Nat, k ≤ ns.length ∧ i = .int .i64 k ∧ (∀ j (hj : j < ns.length), j < k → nodeE t scope ns[j] = 0) ∧ Below (w.heap.size + 1) (w.alloc (.cells #[.slice ag t.globals.length cg, .slice af t.funcs.length cf] 26)) wr) (fun i _ => ns.length - (RowKit.intOf i).toNat)
  case atStart => exact ⟨0, Nat.zero_le _, rfl, fun j hj h => absurd h (Nat.not_lt_zero _), Below.refl _ _⟩
  case round =>
    obtain ⟨k, hk, rfl, hz, hB⟩ := hrel
    have HN : Hid (∀ j (hj : j < ns.length), j < k → nodeE t scope ns[j] = 0) := hz
    clear hz
    have hBw := one_below hB
    obtain ⟨x0, x1⟩ := box2 hB
    have hxl : w.heap.size < wr.heap.size := by have := hB.size; simp at this; omega
    by_cases hlt : k < ns.length
    · obtain ⟨b, off, rfl, hc⟩ := HNC.out (by omega)
      obtain ⟨d0, d1, d2⟩ := (hc.below hBw) k hlt
      have HZ : Hid (nodeE t scope ns[k] ≠ 0 → exprE t scope ns = nodeE t scope ns[k]) := fun h => exprE_at hlt (fun j hj => HN.out j (by omega) hj) h
      have HX : Hid (nodeE t scope ns[k] = 0 → ∀ j (hj : j < ns.length), j < k + 1 → nodeE t scope ns[j] = 0) := fun h j hj hjk => by
        by_cases e : j = k
        · subst e; exact h
        · exact HN.out j hj (by omega)
      clear hc HN
      generalize ns[k] = n at d0 d1 d2 HZ HX
      obtain ⟨kd, vl, nm⟩ := n
      simp only at d0 d1 d2
      have hA : Below w.heap.size w (wr.alloc (.cells #[.int .i64 kd, .int .i64 vl, .string nm] 91)) := hBw.trans (((Below.refl _ _).alloc (Nat.le_refl _) _).mono hBw.size)
      by_cases hk23 : kd = 2 ∨ kd = 3
      · have HE : Hid (nodeE t scope ⟨kd, vl, nm⟩ = useE t.globals scope nm (decide (kd = 3))) := by
          show _ = _
          unfold nodeE
          simp only
          rw [if_pos hk23]
        rcases hk23 with rfl | rfl
        all_goals
          go_wp2_with fail
          refine (l3use_any t.globals scope _ _ _ nm _ _ hgl hsl ⟨_, _, _, rfl⟩ (HG.out.below hA) (HS.out.below hA)).mono ?_
          rintro e w2 ⟨rfl, hb2⟩
          simp only [World.size_alloc] at hb2
          obtain ⟨y0, y1, y2⟩ := box3K hb2
          have hB2 : Below (w.heap.size + 1) (w.alloc (.cells #[.slice ag t.globals.length cg, .slice af t.funcs.length cf] 26)) w2 := hB.trans ((one_below hb2).mono (by omega))
          clear d0 d1 d2 x0 x1 hA
          first
            | (have HE2 : Hid (nodeE t scope ⟨2, vl, nm⟩ = useE t.globals scope nm false) := HE.out; clear HE; generalize useE t.globals scope nm false = z at HE2 ⊢)
            | (have HE2 : Hid (nodeE t scope ⟨3, vl, nm⟩ = useE t.globals scope nm true) := HE.out; clear HE; generalize useE t.globals scope nm true = z at HE2 ⊢)
          by_cases hz : z = 0
          · subst hz
            go_wp2_with fail
            go_roundw
            case rel => exact ⟨k + 1, by omega, by go_num, HX.out HE2.out, hB2⟩
            case measure => simp [RowKit.intOf]; omega
          · go_wp2_with fail
            go_ret
            exact ⟨ret_int (by rw [HZ.out (by rw [HE2.out]; exact hz), HE2.out]), one_below hB2⟩
      · by_cases hk4 : kd = 4
        · subst hk4
          clear hk23
          go_wp2_with fail
          refine (l3func_any t.funcs _ _ nm _ hfl (HF.out.below hA)).mono ?_
          rintro e w2 ⟨rfl, hb2⟩
          simp only [World.size_alloc] at hb2
          obtain ⟨y0, y1, y2⟩ := box3K hb2
          have hB2 : Below (w.heap.size + 1) (w.alloc (.cells #[.slice ag t.globals.length cg, .slice af t.funcs.length cf] 26)) w2 := hB.trans ((one_below hb2).mono (by omega))
          clear d0 d1 d2 x0 x1 hA
          obtain ⟨x0, x1⟩ := box2 hB2
          cases hfn : fnum t.funcs nm with
          | none =>
            have HE : Hid (nodeE t scope ⟨4, vl, nm⟩ = 4) := nodeE_nocall hfn
            rw [fnumI_none hfn]
            clear hfn
            go_wp2_with fail
            go_ret
            exact ⟨ret_int (by rw [HZ.out (by rw [HE.out]; omega), HE.out]), one_below hB2⟩
          | some i =>
            have hi := fnum_lt hfn
            have HE : Hid (nodeE t scope ⟨4, vl, nm⟩ = if ((t.funcs[i].params.length : Nat) : Int) = vl then 0 else 6) := nodeE_call hfn hi
            rw [fnumI_some hfn]
            clear hfn
            obtain ⟨bf, of, rfl, hfc⟩ := HFC.out (by omega)
            obtain ⟨vp, vb, ⟨f0, f1, f2⟩, ⟨ap, cp, rfl, -⟩, -⟩ := (hfc.below (one_below hB2)) i hi
            clear hfc f0 f2
            generalize t.funcs[i].params.length = np at HE f1
            by_cases hv : (np : Int) = vl
            · have HE2 : Hid (nodeE t scope ⟨4, vl, nm⟩ = 0) := by show _ = _; rw [HE.out, if_pos hv]
              clear HE
              subst hv
              go_wp2_with fail
              go_region
              go_wp2_with fail
              go_roundw
              case rel => exact ⟨k + 1, by omega, by go_num, HX.out HE2.out, hB2.drew⟩
              case measure => simp [RowKit.intOf]; omega
            · have HE2 : Hid (nodeE t scope ⟨4, vl, nm⟩ = 6) := by show _ = _; rw [HE.out, if_neg hv]
              clear HE
              go_wp2_with fail
              go_region
              go_wp2_with fail
              go_ret
              exact ⟨ret_int (by rw [HZ.out (by rw [HE2.out]; omega), HE2.out]), one_below hB2.drew⟩
        · have HE : Hid (nodeE t scope ⟨kd, vl, nm⟩ = 0) := by
            show _ = _
            unfold nodeE
            simp only
            rw [if_neg hk23, if_neg hk4]
          have h2 : ¬ kd = 2 := fun h => hk23 (.inl h)
          have h3 : ¬ kd = 3 := fun h => hk23 (.inr h)
          have b2 : (kd == 2) = false := by simpa using h2
          have b3 : (kd == 3) = false := by simpa using h3
          have b4 : (kd == 4) = false := by simpa using hk4
          clear hk23
          go_wp2_with fail
          go_roundw
          case rel => exact ⟨k + 1, by omega, by go_num, HX.out HE.out, hB.trans (((Below.refl _ _).alloc (Nat.le_refl _) _).mono (by omega))⟩
          case measure => simp [RowKit.intOf]; omega
    · have HR : Hid (exprE t scope ns = 0) := exprE_zero (fun j hj => HN.out j hj (by omega))
      go_wp2_with fail
      go_ret
      exact ⟨ret_int HR.out.symm, hBw⟩
end
end Go.Proofs.YtjhmgjimppflhaaGreatDoor
