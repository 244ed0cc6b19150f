import Derived.Test.YtjnnepkoeloekaaGreatDoorPYB
import Derived.Deep.RegionHeld
import Derived.Deep.CutRange
namespace Go.Proofs.YtjnnepkoeloekaaGreatDoor
open Go.RowKit
set_option linter.unusedVariables false
set_option linter.unusedSimpArgs false

set_option maxRecDepth 100000 in
set_option maxHeartbeats 4000000 in
theorem expr_step (w0 : World) (P : Nat) (e : List Nd) (A : Nat) (b : Nat → Nat) (S : Nat → List UInt8) (hc0 : Cut e A b) (h0 : w0.heap.size ≤ P) (hT : Tab w0) (hBT : BTab w0) (hPT : PTab w0) (hl1 : e.length ≤ 1048576) (hX : ∀ i, i < A → ExprSpec w0 P (kid e b i) (S i)) :
    ExprSpec w0 P e (show1 (rootN e) A S (fun i => strN (rootN (kid e b i)))) := by
  intro v l w hN hB hO hl
  have HN : Hid (Nodes w0 v e) := hN
  have HB : Hid (Below w0.heap.size w0 w) := hB
  have HO : Hid (Out w P l) := hO
  have HT : Hid (Tab w0) := hT
  have HBT : Hid (BTab w0) := hBT
  have HPT : Hid (PTab w0) := hPT
  have HCut : Hid (Cut e A b) := hc0
  have HX : Hid (∀ i, i < A → ExprSpec w0 P (kid e b i) (S i)) := hX
  have he := hc0.len
  have HG : Hid (nodeB (rootN e) = true) := hc0.root_good
  have HA : Hid (arity (rootN e) = A) := hc0.ar
  obtain ⟨m, hm⟩ : ∃ m, e.length = m + 1 := ⟨e.length - 1, by omega⟩
  have hNw := hN.below hB
  have HP : Hid (∀ W : World, Below w.heap.size w W → Calls Tryz.prog 104 #[v] W fun r w' => ∃ v', r = .returned v' ∧ Kids w0 w' W.heap.size v' e b A ∧ Below W.heap.size W w') := fun W hW => parts_any w0 v e A b W ((hT.below hT.size hB).below (hT.below hT.size hB).size hW) hl1 hN (hB.trans (hW.mono hB.size)) hc0
  obtain ⟨a, cap, rfl, hcl, hcm, hc⟩ := hNw
  obtain ⟨bb, off, rfl, hc1⟩ := hc he
  obtain ⟨d0, d1, d2⟩ := hc1 m (by omega)
  have hr : e[m] = rootN e := by rw [rootN_eq e he]; simp [hm]
  rw [hr] at d0 d1 d2
  have hlt : bb < w.heap.size := World.block_lt_of_cell? _ _ d0
  clear hB hO hT hc hc1 hr hN hc0 hX hBT hPT
  generalize hR : rootN e = R at d0 d1 d2 hl HG HA ⊢
  clear hR
  obtain ⟨nk, nv, nm⟩ := R
  obtain ⟨nl, rfl⟩ : ∃ nl, nm = tx nl := ⟨_, (tx_back nm).symm⟩
  simp only at d0 d1 d2
  generalize hTx : show1 ⟨nk, nv, tx nl⟩ A S (fun i => strN (rootN (kid e b i))) = T at hl ⊢
  have HTx : Hid (show1 ⟨nk, nv, tx nl⟩ A S (fun i => strN (rootN (kid e b i))) = T) := hTx
  have HL : Hid (l.length + T.length ≤ 900000000) := hl
  clear hl hTx
  have e1 : ((m + 1 : Nat) : Int) - 1 = (m : Int) := by omega
  rw [hm] at HN hcl HP hl1 ⊢
  have HM : Hid (e.length = m + 1) := hm
  clear hm
  have hi0 : (0 : Int) ≤ (m : Int) := by omega
  have hi1 : (m : Int) < (m : Int) + 1 := by omega
  have hi2 : (m : Int) + 1 - 1 = (m : Int) := by omega
  have hw0 : IntKind.i64.wrap (m : Int) = (m : Int) := by rw [wrap64]; omega
  have hw1 : IntKind.i64.wrap ((m : Int) + 1 - 1) = (m : Int) := by rw [wrap64]; omega
  have hw2 : IntKind.i64.wrap (((m + 1 : Nat) : Int) - 1) = (m : Int) := by rw [wrap64]; omega
  have hi4 : ((m + 1 : Nat) : Int) = (m : Int) + 1 := by omega
  have HD : Hid (Below w.heap.size w w.drew) := (Below.refl _ _).drew
  have HD2 : Hid (∀ o, Below w.heap.size w (w.alloc o).drew) := fun o => ((Below.refl _ _).alloc (Nat.le_refl _) o).drew
  have HP1 : Hid (Calls Tryz.prog 104 #[.slice (some ⟨bb, off, none⟩) (m + 1) cap] w.drew fun r w' => ∃ v', r = .returned v' ∧ Kids w0 w' w.drew.heap.size v' e b A ∧ Below w.drew.heap.size w.drew w') := HP.out w.drew HD.out
  have HP2 : Hid (∀ o, Calls Tryz.prog 104 #[.slice (some ⟨bb, off, none⟩) (m + 1) cap] (w.alloc o).drew fun r w' => ∃ v', r = .returned v' ∧ Kids w0 w' (w.alloc o).drew.heap.size v' e b A ∧ Below (w.alloc o).drew.heap.size (w.alloc o).drew w') := fun o => HP.out ((w.alloc o).drew) (HD2.out o)
  have HQ : Hid (∀ W : World, Below w.heap.size w W → W.cell? ⟨bb, off + m * 3, none⟩ = some (.int .i64 nk) ∧ W.cell? ⟨bb, off + m * 3 + 1, none⟩ = some (.int .i64 nv) ∧ W.cell? ⟨bb, off + m * 3 + 2, none⟩ = some (.string (tx nl))) := fun W hW => ⟨(hW.cell (p := ⟨bb, off + m * 3, none⟩) hlt).trans d0, (hW.cell (p := ⟨bb, off + m * 3 + 1, none⟩) hlt).trans d1, (hW.cell (p := ⟨bb, off + m * 3 + 2, none⟩) hlt).trans d2⟩
  have HQ1 : Hid (∀ w2 : World, Below w.drew.heap.size w.drew w2 → w2.cell? ⟨bb, off + m * 3, none⟩ = some (.int .i64 nk) ∧ w2.cell? ⟨bb, off + m * 3 + 1, none⟩ = some (.int .i64 nv) ∧ w2.cell? ⟨bb, off + m * 3 + 2, none⟩ = some (.string (tx nl))) := fun w2 h => HQ.out w2 (HD.out.trans (h.mono (by simp)))
  have HQ2 : Hid (∀ (o : Obj) (w2 : World), Below (w.alloc o).drew.heap.size (w.alloc o).drew w2 → w2.cell? ⟨bb, off + m * 3, none⟩ = some (.int .i64 nk) ∧ w2.cell? ⟨bb, off + m * 3 + 1, none⟩ = some (.int .i64 nv) ∧ w2.cell? ⟨bb, off + m * 3 + 2, none⟩ = some (.string (tx nl))) := fun o w2 h => HQ.out w2 ((HD2.out o).trans (h.mono (by simp)))
  have HQ3 : Hid (∀ w2 : World, Below ((w.alloc (.cells #[.int .i64 0, .int .i64 0, .string { data := #[] }] 90)).drew).heap.size ((w.alloc (.cells #[.int .i64 0, .int .i64 0, .string { data := #[] }] 90)).drew) w2 → w2.cell? ⟨w.heap.size, 0, none⟩ = some (.int .i64 0) ∧ w2.cell? ⟨w.heap.size, 1, none⟩ = some (.int .i64 0) ∧ w2.cell? ⟨w.heap.size, 2, none⟩ = some (.string { data := #[] }) ∧ ∀ j, w2.frozen? ⟨w.heap.size, j, none⟩ = false) := fun w2 h => new_box h
  have hne : w.heap.size ≠ bb := by omega
  have hne' : ¬ w.heap.size = bb := by omega
  have hne2 : ¬ bb = w.heap.size := by omega
  go_enter Tryz.func97, Tryz.ntmps97
  go_upto_region 0 with fail
  go_cut [4, 5] from 9 (fun g ps W => ∃ G, g = .pointer (some ⟨G, 0, none⟩) ∧ NBox P W G nk nv (tx nl) ∧ KidsF w0 P W ps e b A ∧ Below w.heap.size w W)
  case first =>
    go_region_held (fun W => W.cell? ⟨bb, off + m * 3, none⟩ = some (.int .i64 nk) ∧ W.cell? ⟨bb, off + m * 3 + 1, none⟩ = some (.int .i64 nv) ∧ W.cell? ⟨bb, off + m * 3 + 2, none⟩ = some (.string (tx nl))) (go_keep)
      (first
      | (with_reducible refine Calls.mono HP1.out ?_; intro x w2 hx; obtain ⟨v', hxe, hK, hb2⟩ := hx; subst hxe; have q2 := HQ1.out w2 hb2)
      | (with_reducible refine Calls.mono (HP2.out _) ?_; intro x w2 hx; obtain ⟨v', hxe, hK, hb2⟩ := hx; subst hxe; have q2 := HQ2.out _ w2 hb2; have b3 := HQ3.out w2 hb2; obtain ⟨b0, b1, b2, bf⟩ := b3))
    all_goals (go_wp2_with fail)
    all_goals go_meet
    · have hbw : Below w.heap.size w w2 := HD.out.trans (hb2.mono (by simp))
      have hba := hbw.alloc hbw.size (.cells #[.int .i64 nk, .int .i64 nv, .string (tx nl)] 90)
      exact ⟨_, rfl, ⟨far_new HO.out hba hbw.size (by simp), by simp, by simp, by simp⟩, (hK.below ((Below.refl _ _).alloc (Nat.le_refl _) _)).far HO.out hba (by simp), hba⟩
    · have hbw : Below w.heap.size w w2 := (HD2.out _).trans (hb2.mono (by simp))
      have hsz := hb2.size
      simp only [World.size_drew, World.size_alloc] at hsz
      have hba := ((hbw.setCell (p := ⟨w.heap.size, 0, none⟩) (Nat.le_refl _) (.int .i64 nk)).setCell (p := ⟨w.heap.size, 1, none⟩) (Nat.le_refl _) (.int .i64 nv)).setCell (p := ⟨w.heap.size, 2, none⟩) (Nat.le_refl _) (.string (tx nl))
      obtain ⟨x0, x1, x2⟩ := box_set (x' := .int .i64 nk) (y' := .int .i64 nv) (z' := .string (tx nl)) b0 b1 b2
      exact ⟨_, rfl, ⟨far_new HO.out hba (Nat.le_refl _) (by simp; omega), x0, x1, x2⟩, (((hK.set (by simp)).set (by simp)).set (by simp)).far HO.out hba (by simp), hba⟩
  case rest =>
    obtain ⟨G, rfl, ⟨hGf, g0, g1, g2⟩, hK, hbc⟩ := hcut
    have HBc : Hid (Below w0.heap.size w0 wc) := HB.out.trans (hbc.mono HB.out.size)
    have HOc : Hid (Out wc P l) := HO.out.below hbc
    have HWc : Hid (Wr P w wc) := Wr.below HO.out.1 hbc
    have HGf : Hid (Far P wc G) := hGf
    have HK : Hid (KidsF w0 P wc u5 e b A) := hK
    clear hGf hK hbc d0 d1 d2 hi0 hi1 hi2 hw0 hw1 hw2 hi4 HD HD2 HP1 HP2 HQ HQ1 HQ2 HQ3 hne hne' hne2 e1 hlt HP
    have hkk : 1 ≤ nk ∧ nk ≤ 9 := kind_good HG.out
    have hk : nk = 1 ∨ nk = 2 ∨ nk = 3 ∨ nk = 4 ∨ nk = 5 ∨ nk = 6 ∨ 7 ≤ nk := by omega
    rcases hk with rfl | rfl | rfl | rfl | rfl | rfl | hk7
    · -- a number
      have HV : Hid (-2147483648 ≤ nv ∧ nv ≤ 2147483647) := val1 HG.out rfl
      have HE : Hid (T = Lib.itoa nv) := HTx.out.symm.trans rfl
      rw [HE.out] at HL
      go_wp2_with fail
      refine (fmt_any nv HV.out.1 HV.out.2 wc (HPT.out.below HBc.out)).mono ?_
      rintro x w1 ⟨rfl, hb1⟩
      have HO1 : Hid (Out w1 P l) := HOc.out.below hb1
      have HW1 : Hid (Wr P w w1) := HWc.out.trans (Wr.below HOc.out.1 hb1)
      clear hb1 g0 g1 g2
      go_wp2_with fail
      refine (put1 P l (Lib.itoa nv) w1 HO1.out HL.out).mono ?_
      rintro x w2 ⟨⟨u, rfl⟩, hO2, hW2⟩
      have HO2 : Hid (Out w2 P (l ++ Lib.itoa nv)) := hO2
      have HW2 : Hid (Wr P w w2) := HW1.out.trans hW2
      clear hO2 hW2
      go_wp2_with fail
      go_end0
      refine ⟨⟨_, rfl⟩, ?_, HW2.out⟩
      rw [HE.out]
      exact HO2.out
    · -- a variable
      have HE : Hid (T = nl) := HTx.out.symm.trans (by simp [show1, tx])
      rw [HE.out] at HL
      go_wp2_with fail
      refine (put1 P l nl wc HOc.out HL.out).mono ?_
      rintro x w2 ⟨⟨u, rfl⟩, hO2, hW2⟩
      have HO2 : Hid (Out w2 P (l ++ nl)) := hO2
      have HW2 : Hid (Wr P w w2) := HWc.out.trans hW2
      clear hO2 hW2
      go_wp2_with fail
      go_end0
      refine ⟨⟨_, rfl⟩, ?_, HW2.out⟩
      rw [HE.out]
      exact HO2.out
    · -- an element
      have hA1 : A = 1 := by have := HA.out; simp [arity] at this; omega
      subst hA1
      obtain ⟨ua, uc, rfl, hu1, hu2, hu3⟩ := HK.out
      obtain ⟨B, rfl, hBf, hBc⟩ := hu3 (by omega)
      obtain ⟨vi, hv1, hv2⟩ := hBc 0 (by omega)
      have HE : Hid (T = nl ++ [91] ++ (S 0 ++ [93])) := HTx.out.symm.trans (by simp [show1, tx])
      rw [HE.out] at HL
      have HC : Hid (Calls Tryz.prog 81 #[.pointer (some ⟨P, 0, none⟩), .string (tx nl ++ { data := #[91] }), vi, .string { data := #[93] }] wc.drew fun x w' => (∃ u, x = .returned u) ∧ Out w' P (l ++ (nl ++ [91] ++ (S 0 ++ [93]))) ∧ Wr P wc.drew w') := by
        have := line_any w0 P (kid e b 0) (S 0) (nl ++ [91]) [93] (HX.out 0 (by omega)) h0 vi l wc.drew hv2 (HBc.out.trans (((Below.refl _ _).drew).mono HBc.out.size)) (HOc.out.below (Below.refl _ _).drew) (by have := HL.out; simp only [List.length_append] at this ⊢; omega)
        rw [← tx_append] at this
        exact this
      have HQ : Hid (∀ w2 : World, Wr P wc.drew w2 → w2.cell? ⟨G, 2, none⟩ = some (.string (tx nl)) ∧ w2.cell? ⟨B, 0, none⟩ = some vi ∧ Wr P w w2) := fun w2 h => by
        have h' : Wr P wc w2 := (Wr.below HOc.out.1 (Below.refl _ _).drew).trans h
        exact ⟨HGf.out.cell h' g2, hBf.cell h' hv1, HWc.out.trans h'⟩
      have hs : ((tx nl).size : Int) ≤ 1000000000 := by have := HL.out; rw [tx_size]; simp only [List.length_append] at this; omega
      have h91 : (⟨#[91]⟩ : ByteArray).size = 1 := rfl
      clear hBf hBc hu3 hv2
      go_wp2_with fail
      go_region_held (fun W => W.cell? ⟨G, 2, none⟩ = some (.string (tx nl)) ∧ W.cell? ⟨B, 0, none⟩ = some vi) (go_keep)
        (first
        | (with_reducible refine Calls.mono HC.out ?_; intro x w2 hx; obtain ⟨⟨u, hxe⟩, hO2, hW2⟩ := hx; subst hxe; obtain ⟨q1, q2, q3⟩ := HQ.out w2 hW2))
      have HO2 : Hid (Out w2 P (l ++ (nl ++ [91] ++ (S 0 ++ [93])))) := hO2
      have HW2 : Hid (Wr P w w2) := q3
      clear hO2 hW2
      go_wp2_with fail
      go_end0
      refine ⟨⟨_, rfl⟩, ?_, HW2.out⟩
      rw [HE.out]
      exact HO2.out
    · -- a call
      obtain ⟨ua, uc, rfl, hu1, hu2, hu3⟩ := HK.out
      have HE : Hid (T = nl ++ [40] ++ commas S A ++ [41]) := HTx.out.symm.trans (by simp [show1, tx])
      rw [HE.out] at HL
      have hA6 : (A : Int) ≤ 6 := by have := HCut.out.arA; omega
      have HKS : Hid (KidsF w0 P wc (.slice ua A uc) e b A) := HK.out
      clear hu3
      go_wp2_with fail
      refine (put2 P l nl [40] wc HOc.out (by have := HL.out; simp only [List.length_append] at this ⊢; omega)).mono ?_
      rintro x w1 ⟨⟨u, rfl⟩, hO1, hW1⟩
      have HO1 : Hid (Out w1 P (l ++ (nl ++ [40]))) := hO1
      have HW1 : Hid (Wr P w w1) := HWc.out.trans hW1
      have HK1 : Hid (KidsF w0 P w1 (.slice ua A uc) e b A) := HKS.out.wr hW1
      clear hO1 hW1 g0 g1 g2
      go_wp2_with fail
      go_loopw [75] (fun ix W => ∃ k : Nat, k ≤ A ∧ ix = .int .i64 k ∧ Out W P (l ++ (nl ++ [40]) ++ commas S k) ∧ KidsF w0 P W (.slice ua A uc) e b A ∧ Wr P w W) (fun ix _ => A - (intOf ix).toNat)
      case atStart => exact ⟨0, Nat.zero_le _, rfl, by simpa only [commas, List.append_nil] using HO1.out, HK1.out, HW1.out⟩
      case round =>
        obtain ⟨k, hk, rfl, hOk, hKk, hWk⟩ := hrel
        have HOk : Hid (Out wr P (l ++ (nl ++ [40]) ++ commas S k)) := hOk
        have HKk : Hid (KidsF w0 P wr (.slice ua A uc) e b A) := hKk
        have HWk : Hid (Wr P w wr) := hWk
        clear hOk hWk
        by_cases hkA : k < A
        · have HCl : Hid ((commas S (k + 1)).length ≤ (commas S A).length) := commas_mono S (k + 1) A hkA
          obtain ⟨ua', uc', he, _, _, hu3⟩ := hKk
          simp only [Value.slice.injEq, true_and] at he
          obtain ⟨rfl, rfl⟩ := he
          obtain ⟨B, rfl, hBf, hBc⟩ := hu3 (by omega)
          obtain ⟨vi, hv1, hv2⟩ := hBc k hkA
          have HBf : Hid (Far P wr B) := hBf
          have HVi : Hid (Nodes w0 vi (kid e b k)) := hv2
          clear hu3 hBc hv2 hBf
          by_cases hk0 : k = 0
          · subst hk0
            have hkA' : (0 : Int) < (A : Int) := by omega
            go_wp2_with fail
            refine (HX.out 0 hkA vi (l ++ (nl ++ [40]) ++ commas S 0) wr HVi.out (HB.out.trans ((HWk.out.toBelow HO.out).mono h0)) HOk.out (by have := HL.out; have := HCl.out; simp only [commas, List.length_append] at *; omega)).mono ?_
            rintro x w2 ⟨⟨u2, rfl⟩, hO2, hW2⟩
            have HO2 : Hid (Out w2 P (l ++ (nl ++ [40]) ++ commas S (0 + 1))) := by show Out _ _ _; simpa [commas] using hO2
            have HW2 : Hid (Wr P wr w2) := hW2
            clear hO2 hW2
            go_wp2_with fail
            go_roundw
            case rel => exact ⟨0 + 1, by omega, by go_num, HO2.out, HKk.out.wr HW2.out, HWk.out.trans HW2.out⟩
            case measure => simp [intOf]; omega
          · have hkp : (0 : Int) < (k : Int) := by omega
            go_wp2_with fail
            refine (put1 P (l ++ (nl ++ [40]) ++ commas S k) [44, 32] wr HOk.out (by have := HL.out; have := HCl.out; simp only [commas, List.length_append, if_neg hk0] at *; omega)).mono ?_
            rintro x w3 ⟨⟨u3, rfl⟩, hO3, hW3⟩
            have HO3 : Hid (Out w3 P (l ++ (nl ++ [40]) ++ commas S k ++ [44, 32])) := hO3
            have HW3 : Hid (Wr P wr w3) := hW3
            clear hO3 hW3 hv1
            go_wp2_with fail
            refine (HX.out k hkA vi (l ++ (nl ++ [40]) ++ commas S k ++ [44, 32]) w3 HVi.out (HB.out.trans (((HWk.out.trans HW3.out).toBelow HO.out).mono h0)) HO3.out (by have := HL.out; have := HCl.out; simp only [commas, List.length_append, if_neg hk0] at *; omega)).mono ?_
            rintro x w2 ⟨⟨u2, rfl⟩, hO2, hW2⟩
            have HO2 : Hid (Out w2 P (l ++ (nl ++ [40]) ++ commas S (k + 1))) := by show Out _ _ _; simpa only [commas, if_neg hk0, List.append_assoc] using hO2
            have HW2 : Hid (Wr P wr w2) := HW3.out.trans hW2
            clear hO2 hW2
            go_wp2_with fail
            go_roundw
            case rel => exact ⟨k + 1, by omega, by go_num, HO2.out, HKk.out.wr HW2.out, HWk.out.trans HW2.out⟩
            case measure => simp [intOf]; omega
        · obtain rfl : k = A := by omega
          clear hKk
          go_wp2_with fail
          refine (put1 P (l ++ (nl ++ [40]) ++ commas S k) [41] wr HOk.out (by have := HL.out; simp only [List.length_append] at *; omega)).mono ?_
          rintro x w2 ⟨⟨u, rfl⟩, hO2, hW2⟩
          have HO2 : Hid (Out w2 P (l ++ (nl ++ [40]) ++ commas S k ++ [41])) := hO2
          have HW2 : Hid (Wr P w w2) := HWk.out.trans hW2
          clear hO2 hW2
          go_wp2_with fail
          go_end0
          refine ⟨⟨_, rfl⟩, ?_, HW2.out⟩
          rw [HE.out]
          simpa only [List.append_assoc] using HO2.out
    · -- a word of input
      have HE : Hid (T = [105, 110, 40, 41]) := HTx.out.symm.trans (by simp [show1])
      rw [HE.out] at HL
      go_wp2_with fail
      refine (put1 P l [105, 110, 40, 41] wc HOc.out HL.out).mono ?_
      rintro x w2 ⟨⟨u, rfl⟩, hO2, hW2⟩
      have HO2 : Hid (Out w2 P (l ++ [105, 110, 40, 41])) := hO2
      have HW2 : Hid (Wr P w w2) := HWc.out.trans hW2
      clear hO2 hW2
      go_wp2_with fail
      go_end0
      refine ⟨⟨_, rfl⟩, ?_, HW2.out⟩
      rw [HE.out]
      exact HO2.out
    · -- an operator in front
      have hA1 : A = 1 := by have := HA.out; simp [arity] at this; omega
      subst hA1
      obtain ⟨ua, uc, rfl, hu1, hu2, hu3⟩ := HK.out
      obtain ⟨B, rfl, hBf, hBc⟩ := hu3 (by omega)
      obtain ⟨vi, hv1, hv2⟩ := hBc 0 (by omega)
      have HE : Hid (T = unTab.getD nv.toNat [] ++ heldL (S 0) (decide (strN (rootN (kid e b 0)) < 11))) := HTx.out.symm.trans (by simp [show1])
      rw [HE.out] at HL
      have hHl := held_ge (S 0) (decide (strN (rootN (kid e b 0)) < 11))
      have hHl2 := held_len (S 0) (decide (strN (rootN (kid e b 0)) < 11))
      have hnv : 0 ≤ nv ∧ nv ≤ 2 := val6 HG.out rfl
      obtain ⟨hnv0, hnv2⟩ := hnv
      have hwr : IntKind.i64.wrap (nv + 1) = nv + 1 := by rw [wrap64]; omega
      have hsl := un_slice nv hnv0 hnv2
      generalize unTab.getD nv.toNat [] = U at HE HL hsl
      have HBf : Hid (Far P wc B) := hBf
      have HVi : Hid (Nodes w0 vi (kid e b 0)) := hv2
      have HV1 : Hid (wc.cell? ⟨B, 0, none⟩ = some vi) := hv1
      clear hBf hBc hu3 hv2 hv1
      go_wp2_with fail
      refine (put1 P l U wc HOc.out (by have := HL.out; simp only [List.length_append] at this; omega)).mono ?_
      rintro x w1 ⟨⟨u, rfl⟩, hO1, hW1⟩
      have HO1 : Hid (Out w1 P (l ++ U)) := hO1
      have HW1 : Hid (Wr P wc w1) := hW1
      have hv1 : w1.cell? ⟨B, 0, none⟩ = some vi := HBf.out.cell hW1 HV1.out
      have HWw : Hid (Wr P w w1) := HWc.out.trans hW1
      have HX0 : Hid (ExprSpec w0 P (kid e b 0) (S 0)) := HX.out 0 (by omega)
      clear hO1 hW1 g0 g1 g2 hsl
      go_wp2_with fail
      refine (operand_any w0 P (kid e b 0) (S 0) HX0.out h0 HBT.out (HCut.out.kid_pos 0 (by omega)) (by have := HCut.out.kid_lt 0 (by omega); have := HM.out; omega) (HCut.out.kid_root 0 (by omega)) 11 vi (l ++ U) w1 HVi.out (HB.out.trans ((HWw.out.toBelow HO.out).mono h0)) HO1.out (by have := HL.out; simp only [List.length_append] at *; omega)).mono ?_
      rintro x w2 ⟨⟨u2, rfl⟩, hO2, hW2⟩
      have HO2 : Hid (Out w2 P (l ++ U ++ heldL (S 0) (decide (strN (rootN (kid e b 0)) < 11)))) := hO2
      have HW2 : Hid (Wr P w w2) := HWw.out.trans hW2
      clear hO2 hW2
      go_wp2_with fail
      go_end0
      refine ⟨⟨_, rfl⟩, ?_, HW2.out⟩
      rw [HE.out]
      simpa only [List.append_assoc] using HO2.out
    · -- an operator between
      have hA2 : A = 2 := by
        have h := HA.out
        unfold arity at h
        simp only at h
        rw [if_neg (by omega), if_neg (by omega), if_pos (by omega)] at h
        omega
      subst hA2
      obtain ⟨ua, uc, rfl, hu1, hu2, hu3⟩ := HK.out
      obtain ⟨B, rfl, hBf, hBc⟩ := hu3 (by omega)
      obtain ⟨v0, hv0, hv2⟩ := hBc 0 (by omega)
      obtain ⟨v1, hv1, hv3⟩ := hBc 1 (by omega)
      have hE : T = heldL (S 0) (decide (strN (rootN (kid e b 0)) < strN ⟨nk, nv, tx nl⟩)) ++ ([32] ++ (wordN ⟨nk, nv, tx nl⟩ ++ [32])) ++ heldL (S 1) (decide (strN (rootN (kid e b 1)) < strN ⟨nk, nv, tx nl⟩ + 1)) := by
        refine HTx.out.symm.trans ?_
        unfold show1
        simp only
        rw [if_neg (by omega), if_neg (by omega), if_neg (by omega), if_neg (by omega), if_neg (by omega), if_neg (by omega)]
        have : decide (strN (rootN (kid e b 1)) < strN ⟨nk, nv, tx nl⟩ + 1) = decide (strN (rootN (kid e b 1)) ≤ strN ⟨nk, nv, tx nl⟩) := by
          rw [decide_eq_decide]; omega
        rw [this]
        simp only [List.append_assoc]
      have hst : 1 ≤ strN ⟨nk, nv, tx nl⟩ ∧ strN ⟨nk, nv, tx nl⟩ ≤ 11 := str_bounds _ HG.out
      have hBin := bin_any ⟨nk, nv, tx nl⟩ HG.out wc (HBT.out.below HBc.out)
      have HWd : Hid (7 ≤ nk) := hk7
      generalize hg1 : strN ⟨nk, nv, tx nl⟩ = st at hE hst
      generalize hg2 : wordN ⟨nk, nv, tx nl⟩ = wd at hE
      have HG1 : Hid (strN ⟨nk, nv, tx nl⟩ = st) := hg1
      have HG2 : Hid (wordN ⟨nk, nv, tx nl⟩ = wd) := hg2
      generalize ht0 : heldL (S 0) (decide (strN (rootN (kid e b 0)) < st)) = t0 at hE
      generalize ht1 : heldL (S 1) (decide (strN (rootN (kid e b 1)) < st + 1)) = t1 at hE
      have HT0 : Hid (heldL (S 0) (decide (strN (rootN (kid e b 0)) < st)) = t0) := ht0
      have HT1 : Hid (heldL (S 1) (decide (strN (rootN (kid e b 1)) < st + 1)) = t1) := ht1
      have HE : Hid (T = t0 ++ ([32] ++ (wd ++ [32])) ++ t1) := hE
      rw [HE.out] at HL
      have HBf : Hid (Far P wc B) := hBf
      have HV0 : Hid (Nodes w0 v0 (kid e b 0)) := hv2
      have HV1 : Hid (Nodes w0 v1 (kid e b 1)) := hv3
      have HC0 : Hid (wc.cell? ⟨B, 0, none⟩ = some v0) := hv0
      have HC1 : Hid (wc.cell? ⟨B, 1, none⟩ = some v1) := hv1
      have HX0 : Hid (ExprSpec w0 P (kid e b 0) (S 0)) := HX.out 0 (by omega)
      have HX1 : Hid (ExprSpec w0 P (kid e b 1) (S 1)) := HX.out 1 (by omega)
      have HKP : Hid (∀ i, i < 2 → 0 < (kid e b i).length ∧ (kid e b i).length ≤ 1048576 ∧ nodeB (rootN (kid e b i)) = true) := fun i hi => ⟨HCut.out.kid_pos i hi, by have := HCut.out.kid_lt i hi; have := HM.out; omega, HCut.out.kid_root i hi⟩
      have HBin : Hid (Calls Tryz.prog 106 #[.agg #[.int .i64 nk, .int .i64 nv, .string (tx nl)]] wc fun e w' => BinRes ⟨nk, nv, tx nl⟩ e ∧ Below wc.heap.size wc w') := hBin
      obtain ⟨hst1, hst11⟩ := hst
      have hws : IntKind.i64.wrap (st + 1) = st + 1 := by rw [wrap64]; omega
      clear hBf hBc hu3 hv2 hv3 hv0 hv1 hE hBin hg1 hg2 ht0 ht1 HTx HK HX
      have n1 : ¬ nk = 1 := by omega
      have n2 : ¬ nk = 2 := by omega
      have n3 : ¬ nk = 3 := by omega
      have n4 : ¬ nk = 4 := by omega
      have n5 : ¬ nk = 5 := by omega
      have n6 : ¬ nk = 6 := by omega
      clear hk7 hkk
      go_wp2_with fail
      refine HBin.out.mono ?_
      rintro x w1 ⟨⟨sy, kk, vv, rfl, hsy⟩, hb1⟩
      rw [HG1.out]
      have hsy' : sy = tx wd := by rw [← HG2.out]; exact hsy HWd.out
      subst hsy'
      clear hsy g0 g1 g2
      have HB1 : Hid (Below wc.heap.size wc w1) := hb1
      clear hb1
      go_wp2_with fail
      obtain ⟨W1, hW1⟩ : ∃ W1, W1 = w1.alloc (.cells #[.string (tx wd), .int .i64 st, .int .i64 kk, .int .i64 vv] 150) := ⟨_, rfl⟩
      have hbW : Below wc.heap.size wc W1 := by rw [hW1]; exact HB1.out.alloc HB1.out.size _
      have HOa : Hid (Out W1 P l) := HOc.out.below hbW
      have HWc1 : Hid (Wr P wc W1) := Wr.below HOc.out.1 hbW
      have HWa : Hid (Wr P w W1) := HWc.out.trans HWc1.out
      have HFH : Hid (Far P W1 w1.heap.size) := far_new HOc.out hbW HB1.out.size (by rw [hW1]; simp)
      have HFB : Hid (Far P W1 B) := HBf.out.wr HWc1.out
      have c0 : W1.cell? ⟨w1.heap.size, 0, none⟩ = some (.string (tx wd)) := by rw [hW1]; simp
      have c1 : W1.cell? ⟨w1.heap.size, 1, none⟩ = some (.int .i64 st) := by rw [hW1]; simp
      have cb0 : W1.cell? ⟨B, 0, none⟩ = some v0 := HBf.out.cell HWc1.out HC0.out
      have cb1 : W1.cell? ⟨B, 1, none⟩ = some v1 := HBf.out.cell HWc1.out HC1.out
      rw [← hW1]
      clear hW1 hbW
      generalize w1.heap.size = H at c0 c1 HFH ⊢
      have HC3 : Hid (Calls Tryz.prog 105 #[.pointer (some ⟨P, 0, none⟩), v0, .int .i64 st] W1.drew fun x w' => (∃ u, x = .returned u) ∧ Out w' P (l ++ t0) ∧ Wr P W1.drew w') := by
        have := operand_any w0 P (kid e b 0) (S 0) HX0.out h0 HBT.out (HKP.out 0 (by omega)).1 (HKP.out 0 (by omega)).2.1 (HKP.out 0 (by omega)).2.2 st v0 l W1.drew HV0.out ((HB.out.trans ((HWa.out.toBelow HO.out).mono h0)).drew) (HOa.out.below (Below.refl _ _).drew) (by rw [HT0.out]; have := HL.out; simp only [List.length_append] at this; omega)
        rw [HT0.out] at this
        exact this
      have HQ3 : Hid (∀ w2 : World, Wr P W1.drew w2 → w2.cell? ⟨B, 0, none⟩ = some v0 ∧ w2.cell? ⟨H, 1, none⟩ = some (.int .i64 st) ∧ Wr P W1 w2) := fun w2 h => by
        have h' : Wr P W1 w2 := (Wr.below HOa.out.1 (Below.refl _ _).drew).trans h
        exact ⟨HFB.out.cell h' cb0, HFH.out.cell h' c1, h'⟩
      have HC0' : Hid (W1.cell? ⟨H, 0, none⟩ = some (.string (tx wd))) := c0
      have HC1' : Hid (W1.cell? ⟨H, 1, none⟩ = some (.int .i64 st)) := c1
      have HCB1 : Hid (W1.cell? ⟨B, 1, none⟩ = some v1) := cb1
      clear c0 cb1
      go_region_held (fun W => W.cell? ⟨B, 0, none⟩ = some v0 ∧ W.cell? ⟨H, 1, none⟩ = some (.int .i64 st)) (go_keep)
        (first
        | (with_reducible refine Calls.mono HC3.out ?_; intro x w2 hx; obtain ⟨⟨u, hxe⟩, hO2, hW2⟩ := hx; subst hxe; obtain ⟨q1, q2, q3⟩ := HQ3.out w2 hW2))
      have HO2 : Hid (Out w2 P (l ++ t0)) := hO2
      have HW2 : Hid (Wr P W1 w2) := q3
      have c20 : w2.cell? ⟨H, 0, none⟩ = some (.string (tx wd)) := HFH.out.cell q3 HC0'.out
      clear hO2 hW2 q1 q2 q3 HC3 HQ3 c1 cb0
      go_wp2_with fail
      refine (put3 P (l ++ t0) [32] wd [32] w2 HO2.out (by have := HL.out; simp only [List.length_append] at *; omega)).mono ?_
      rintro x w3 ⟨⟨u3, rfl⟩, hO3, hW3⟩
      have HO3 : Hid (Out w3 P (l ++ t0 ++ ([32] ++ (wd ++ [32])))) := hO3
      have HW3 : Hid (Wr P W1 w3) := HW2.out.trans hW3
      have c1 : w3.cell? ⟨H, 1, none⟩ = some (.int .i64 st) := HFH.out.cell HW3.out HC1'.out
      have cb1 : w3.cell? ⟨B, 1, none⟩ = some v1 := HFB.out.cell HW3.out HCB1.out
      clear hO3 hW3 c20
      have HC5 : Hid (Calls Tryz.prog 105 #[.pointer (some ⟨P, 0, none⟩), v1, .int .i64 (st + 1)] w3.drew fun x w' => (∃ u, x = .returned u) ∧ Out w' P (l ++ t0 ++ ([32] ++ (wd ++ [32])) ++ t1) ∧ Wr P w3.drew w') := by
        have := operand_any w0 P (kid e b 1) (S 1) HX1.out h0 HBT.out (HKP.out 1 (by omega)).1 (HKP.out 1 (by omega)).2.1 (HKP.out 1 (by omega)).2.2 (st + 1) v1 (l ++ t0 ++ ([32] ++ (wd ++ [32]))) w3.drew HV1.out ((HB.out.trans (((HWa.out.trans HW3.out).toBelow HO.out).mono h0)).drew) (HO3.out.below (Below.refl _ _).drew) (by rw [HT1.out]; have := HL.out; simp only [List.length_append] at this ⊢; omega)
        rw [HT1.out] at this
        exact this
      have HQ5 : Hid (∀ w2 : World, Wr P w3.drew w2 → w2.cell? ⟨B, 1, none⟩ = some v1 ∧ w2.cell? ⟨H, 1, none⟩ = some (.int .i64 st) ∧ Wr P w w2) := fun w2 h => by
        have h' : Wr P W1 w2 := HW3.out.trans ((Wr.below HO3.out.1 (Below.refl _ _).drew).trans h)
        exact ⟨HFB.out.cell h' HCB1.out, HFH.out.cell h' HC1'.out, HWa.out.trans h'⟩
      go_wp2_with fail
      go_region_held (fun W => W.cell? ⟨B, 1, none⟩ = some v1 ∧ W.cell? ⟨H, 1, none⟩ = some (.int .i64 st)) (go_keep)
        (first
        | (with_reducible refine Calls.mono HC5.out ?_; intro x w4 hx; obtain ⟨⟨u, hxe⟩, hO4, hW4⟩ := hx; subst hxe; obtain ⟨q1, q2, q3⟩ := HQ5.out w4 hW4))
      have HO4 : Hid (Out w4 P (l ++ t0 ++ ([32] ++ (wd ++ [32])) ++ t1)) := hO4
      have HW4 : Hid (Wr P w w4) := q3
      clear hO4 hW4 q1 q2 q3
      go_wp2_with fail
      go_end0
      refine ⟨⟨_, rfl⟩, ?_, HW4.out⟩
      rw [HE.out]
      simpa only [List.append_assoc] using HO4.out

theorem expr_any (w0 : World) (P : Nat) (h0 : w0.heap.size ≤ P) (hT : Tab w0) (hBT : BTab w0) (hPT : PTab w0) {e : List Nd} {s : List UInt8} (hp : Pr e s) (hl1 : e.length ≤ 1048576) : ExprSpec w0 P e s := by
  induction hp using Pr.ind with
  | mk e A b S hc hk ih => exact expr_step w0 P e A b S hc h0 hT hBT hPT hl1 fun i hi => ih i hi (by have := hc.kid_lt i hi; omega)

end Go.Proofs.YtjnnepkoeloekaaGreatDoor
