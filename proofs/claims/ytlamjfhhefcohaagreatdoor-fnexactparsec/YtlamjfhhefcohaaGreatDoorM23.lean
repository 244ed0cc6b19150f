import Derived.Test.YtlamjfhhefcohaaGreatDoorM22
namespace Go.Proofs.YtlamjfhhefcohaaGreatDoor
set_option linter.unusedVariables false
set_option linter.unusedSimpArgs false
set_option maxRecDepth 100000
set_option maxHeartbeats 16000000
section
open Go.RowKit
set_option maxRecDepth 100000 in
set_option maxHeartbeats 8000000 in
theorem lex_any (w : World) (b c : Nat) (l : List UInt8) (hT : Txt w b l) (hb : b < w.heap.size) (hl : l.length ≤ 20000) (hc : l.length ≤ c) :
  Calls Tryz.prog 22 #[.slice (some ⟨b, 0, none⟩) l.length c] w (LexA w l) := by
 obtain ⟨W1, eW1⟩ : ∃ W1, W1 = w.alloc (.cells #[] 55) := ⟨_, rfl⟩
 obtain ⟨B1, eB1⟩ : ∃ B1, B1 = w.heap.size := ⟨_, rfl⟩
 have hb1 : Below w.heap.size w W1 := by rw [eW1]; exact (Below.refl _ _).alloc (Nat.le_refl _) _
 have hr1 : TRow w.heap.size W1 (.slice (some ⟨B1, 0, none⟩) 0 0) [] := by rw [eW1, eB1]; exact trow_nil w _ (Nat.le_refl _)
 have HRel : Hid (LexR w b l (.slice (some ⟨B1, 0, none⟩) 0 0) (.int .i64 0) W1) := ⟨0, 0, rfl, lx_start l, hr1, hb1, hT.below hb1 hb⟩
 have HW1 := hide eW1
 have HB1 := hide eB1
 have HBw := hide hb
 clear eW1 eB1 hb1 hr1 hT hb
 go_enter Tryz.func22, Tryz.ntmps22
 go_upto_region 2 with fail
 rw [← HW1.out, ← HB1.out]
 go_wp2_with fail
 go_loopw [3, 4] (fun v iv wr => LexR w b l v iv wr) (fun _ iv _ => l.length - (RowKit.intOf iv).toNat)
 case atStart => exact HRel.out
 case round =>
  clear HRel HW1 HB1
  obtain ⟨m, k, rfl, hx, hr, hbe, hT⟩ := hrel
  have HLx := hide hx
  have HTl : Hid (((List.range m).map (tokT l)).length ≤ 1000000) := by show _ ≤ _; rw [rng_len]; exact Nat.le_trans hx.count (Nat.le_trans hl (by decide))
  by_cases hk : k < l.length
  ·obtain ⟨Wa, eWa⟩ : ∃ Wa, Wa = wr.alloc (.cells #[.int .i64 5, .string ⟨#[]⟩, .int .i64 0, .int .i64 (k : Int)] 55) := ⟨_, rfl⟩
   obtain ⟨M5, eM5⟩ : ∃ M5, M5 = wr.heap.size := ⟨_, rfl⟩
   obtain ⟨Wb, eWb⟩ : ∃ Wb, Wb = Wa.alloc (.cells #[.int .i64 0, .string ⟨#[]⟩, .int .i64 0, .int .i64 (k : Int)] 55) := ⟨_, rfl⟩
   obtain ⟨M6, eM6⟩ : ∃ M6, M6 = Wa.heap.size := ⟨_, rfl⟩
   have hL := LB.new hr hbe hT HBw.out eWa eM5 eWb eM6
   have hck := hL.tx k hk
   have hkc := lx_lt hk
   have HWa := hide eWa
   have HWb := hide eWb
   have HM5 := hide eM5
   have HM6 := hide eM6
   have hLt := hx.lo
   clear eWa eWb eM5 eM6 hr hbe hT hx hLt
   cases hbl : blkU l[k] with
   | true =>
    have HF : Hid (LexR w b l _ (.int .i64 ((k + 1 : Nat) : Int)) Wb) := ⟨m, k + 1, rfl, lx_blank HLx.out hk hbl, hL.row, hL.be, hL.tx⟩
    have hw1 := lx_w1 (Nat.le_of_lt hk) hl
    rcases c32y _ hbl with e | e
    all_goals
     rw [e] at hck
     clear hL hbl e
     go_upto_region 5 with fail
     rw [← HWa.out, ← HM5.out]
     go_upto_region 6 with fail
     rw [← HWb.out, ← HM6.out]
     go_wp2_with fail
     go_roundw
     case rel => exact HF.out
     case measure => simp [RowKit.intOf]; exact lx_meas hk
   | false =>
    obtain ⟨e32, e10⟩ := c32 _ hbl
    obtain ⟨htk, hen⟩ := lx_tok HLx.out (fun _ => hbl)
    have HTk := hide htk
    have HEn := hide hen
    clear htk hen hbl
    go_upto_region 5 with fail
    rw [← HWa.out, ← HM5.out]
    go_upto_region 6 with fail
    rw [← HWb.out, ← HM6.out]
    clear HWa HWb HM5 HM6
    cases hf : fstU l[k] with
    | true =>
     have hs1 : smallB (cI l[k]) = true := hf
     have HTw := hide (fun (j : Nat) h1 h2 => tok_word (i := k) (d := j) hk hf h1 h2)
     have HLa := hide (fst_lat hf)
     clear hf
     generalize hcc : cI l[k] = cc at *
     clear hcc
     go_wp2_with (go_at_call 45; refine (first_any _ _).mono ?_; rintro e w' ⟨rfl, hw⟩; rw [hw, hs1]; clear hw)
     go_loop [7] (fun jv => ∃ j : Nat, jv = .int .i64 (j : Int) ∧ k ≤ j ∧ j ≤ l.length ∧ ∀ x (hx : x < l.length), k ≤ x → x < j → latU l[x] = true) (fun jv => l.length - (RowKit.intOf jv).toNat)
     case atStart => exact ⟨k, rfl, Nat.le_refl _, Nat.le_of_lt hk, fun x _ h1 h2 => absurd h1 (Nat.not_le_of_lt h2)⟩
     case round =>
      obtain ⟨j, rfl, hkj, hjl, hall⟩ := hrel
      have HAll := hide hall
      clear hall
      by_cases hjl2 : j < l.length
      ·have hcj := hL.tx j hjl2
       have hjc := lx_lt hjl2
       cases hla : latU l[j] with
       | true =>
        have hs2 : laterB (cI l[j]) = true := hla
        have HN := hide (lx_more HAll.out hjl2 hla)
        have hw1 := lx_w1 hjl hl
        generalize cI l[j] = cj at *
        clear hL HTw HAll
        go_wp2_with (go_at_call 46; refine (later_any _ _).mono ?_; rintro e w' ⟨rfl, hw⟩; rw [hw, hs2]; clear hw)
        go_round
        case rel => exact ⟨j + 1, by go_num, Nat.le_succ_of_le hkj, hjl2, HN.out⟩
        case measure => simp [RowKit.intOf]; exact lx_meas hjl2
       | false =>
        have hs2 : laterB (cI l[j]) = false := hla
        have he : ∀ hx : j < l.length, latU l[j] = false := fun _ => hla
        generalize cI l[j] = cj at *
        obtain ⟨hw1, hw2⟩ := end_tw latU hkj hjl HAll.out he
        have htw := HTw.out (j - k) hw1 hw2
        have hkj' := lx_pos (p := latU) hk HLa.out hkj he
        obtain ⟨hsb, hs20⟩ := lx_sub hkj (Nat.le_trans hjl hl)
        have hcut := tcut_run b l.length c k j hkj hjl hc
        obtain ⟨Wc, eWc⟩ : ∃ Wc, Wc = Wb.setCell ⟨M6, 0, none⟩ (.int .i64 1) := ⟨_, rfl⟩
        have hLc := hL.put 0 (.int .i64 1) eWc
        simp only [List.set_cons_zero, List.set_cons_succ] at hLc
        have a0 := (hL.q6 (j := 0) rfl).1
        have z0 := (hL.q6 (j := 0) rfl).2
        have hcv := tconv hLc.tx (if c = k then 0 else k) (c - k) k (j - k) (by have := lx_addsub hkj; rw [this]; exact hjl) (fun _ => if_neg (fun e => absurd (e ▸ hc) (Nat.not_le_of_lt hk)))
        obtain ⟨ts, ets⟩ : ∃ ts, ts = tx ((l.drop k).take (j - k)) := ⟨_, rfl⟩
        rw [← ets] at hcv
        obtain ⟨Wd, eWd⟩ : ∃ Wd, Wd = Wc.setCell ⟨M6, 1, none⟩ (.string ts) := ⟨_, rfl⟩
        have hLd := hLc.put 1 (.string ts) eWd
        simp only [List.set_cons_zero, List.set_cons_succ] at hLd
        have a1 := (hLc.q6 (j := 1) rfl).1
        have z1 := (hLc.q6 (j := 1) rfl).2
        have HWc := hide eWc
        have HWd := hide eWd
        have HEt := hide ets
        have HTt := hide htw
        obtain ⟨d, ed⟩ : ∃ d, d = j - k := ⟨_, rfl⟩
        rw [← ed] at hsb hs20 hcut hcv
        have HEd := hide ed
        generalize (if c = k then 0 else k) = oo at *
        generalize c - k = cc2 at *
        clear eWc eWd ets htw hw1 hw2 hL ed he hLc HTw
        go_upto_region 13 with (go_at_call 46; refine (later_any _ _).mono ?_; rintro e w' ⟨rfl, hw⟩; rw [hw, hs2]; clear hw)
        rw [← HWc.out]
        go_upto_region 14 with fail
        rw [← HWd.out]
        clear a0 z0 a1 z1 hcut hcv
        by_cases h20 : 20 < d
        ·have h20' := (lx_20 hkj HEd.out).2 h20
         have htt : tokL (l.drop k) k = (⟨5, tx [], 0, k⟩, 0) := by rw [HTt.out, if_pos (by rw [← HEd.out]; exact h20)]
         have HT9 : Hid ((⟨5, tx [], 0, k⟩ : To) = tokT l m) := by show _ = _; rw [HTk.out, htt]
         clear htt hs20 h20
         have y0 := hLd.q5 (j := 0) rfl
         have y1 := hLd.q5 (j := 1) rfl
         have y2 := hLd.q5 (j := 2) rfl
         have y3 := hLd.q5 (j := 3) rfl
         obtain ⟨W9, eW9⟩ : ∃ W9, W9 = Wd.alloc (.cells #[.int .i64 5, .string ⟨#[]⟩, .int .i64 0, .int .i64 (k : Int)] 55) := ⟨_, rfl⟩
         obtain ⟨B9, eB9⟩ : ∃ B9, B9 = Wd.heap.size := ⟨_, rfl⟩
         obtain ⟨v9, w9, r9, a9, b9, x9⟩ := hLd.app (⟨5, tx [], 0, k⟩) HTl.out eW9 eB9
         have HW9 := hide eW9
         have HB9 := hide eB9
         have HR9 := hide r9
         have HF := hide (lex_fin HLx.out (HT9.out) (by show (4 : Int) ≤ 5; decide) a9 b9)
         clear eW9 eB9 r9 a9 b9 x9
         go_wp2_with (at_builtin; rw [← HW9.out, ← HB9.out]; refine wpList_appG rfl _ _ _ rfl _ _ v9 w9 rfl rfl HR9.out ?_)
         go_ret
         exact HF.out
        ·have h20' : ¬ (20 : Int) < (j : Int) - (k : Int) := fun e => h20 ((lx_20 hkj HEd.out).1 e)
         have htt : tokL (l.drop k) k = (⟨1, ts, 0, k⟩, j - k) := by rw [HTt.out, if_neg (by rw [← HEd.out]; exact h20), HEt.out]
         have HT9 : Hid ((⟨1, ts, 0, k⟩ : To) = tokT l m) := by show _ = _; rw [HTk.out, htt]
         have HJ9 : Hid (j = endT l (m + 1)) := by show _ = _; rw [HEn.out, htt]; exact (lx_addsub hkj).symm
         clear htt hs20 h20
         have y0 := (hLd.q6 (j := 0) rfl).1
         have y1 := (hLd.q6 (j := 1) rfl).1
         have y2 := (hLd.q6 (j := 2) rfl).1
         have y3 := (hLd.q6 (j := 3) rfl).1
         obtain ⟨W9, eW9⟩ : ∃ W9, W9 = Wd.alloc (.cells #[.int .i64 1, .string ts, .int .i64 0, .int .i64 (k : Int)] 55) := ⟨_, rfl⟩
         obtain ⟨B9, eB9⟩ : ∃ B9, B9 = Wd.heap.size := ⟨_, rfl⟩
         obtain ⟨v9, w9, r9, a9, b9, x9⟩ := hLd.app (⟨1, ts, 0, k⟩) HTl.out eW9 eB9
         have HW9 := hide eW9
         have HB9 := hide eB9
         have HR9 := hide r9
         have HF := hide (lex_go (j := j) HLx.out (HT9.out) (by show (1 : Int) ≤ 3; decide) (HJ9.out) a9 b9 x9)
         clear eW9 eB9 r9 a9 b9 x9
         go_wp2_with (at_builtin; rw [← HW9.out, ← HB9.out]; refine wpList_appG rfl _ _ _ rfl _ _ v9 w9 rfl rfl HR9.out ?_)
         go_roundw
         case rel => exact HF.out
         case measure => simp only [Array.getD, RowKit.intOf] at *; simp [RowKit.intOf]; exact lx_meas2 hk (hkj')
      ·have hjc := lx_nlt hjl2
       have he : ∀ hx : j < l.length, latU l[j] = false := fun hx => absurd hx hjl2
       obtain ⟨hw1, hw2⟩ := end_tw latU hkj hjl HAll.out he
       have htw := HTw.out (j - k) hw1 hw2
       have hkj' := lx_pos (p := latU) hk HLa.out hkj he
       obtain ⟨hsb, hs20⟩ := lx_sub hkj (Nat.le_trans hjl hl)
       have hcut := tcut_run b l.length c k j hkj hjl hc
       obtain ⟨Wc, eWc⟩ : ∃ Wc, Wc = Wb.setCell ⟨M6, 0, none⟩ (.int .i64 1) := ⟨_, rfl⟩
       have hLc := hL.put 0 (.int .i64 1) eWc
       simp only [List.set_cons_zero, List.set_cons_succ] at hLc
       have a0 := (hL.q6 (j := 0) rfl).1
       have z0 := (hL.q6 (j := 0) rfl).2
       have hcv := tconv hLc.tx (if c = k then 0 else k) (c - k) k (j - k) (by have := lx_addsub hkj; rw [this]; exact hjl) (fun _ => if_neg (fun e => absurd (e ▸ hc) (Nat.not_le_of_lt hk)))
       obtain ⟨ts, ets⟩ : ∃ ts, ts = tx ((l.drop k).take (j - k)) := ⟨_, rfl⟩
       rw [← ets] at hcv
       obtain ⟨Wd, eWd⟩ : ∃ Wd, Wd = Wc.setCell ⟨M6, 1, none⟩ (.string ts) := ⟨_, rfl⟩
       have hLd := hLc.put 1 (.string ts) eWd
       simp only [List.set_cons_zero, List.set_cons_succ] at hLd
       have a1 := (hLc.q6 (j := 1) rfl).1
       have z1 := (hLc.q6 (j := 1) rfl).2
       have HWc := hide eWc
       have HWd := hide eWd
       have HEt := hide ets
       have HTt := hide htw
       obtain ⟨d, ed⟩ : ∃ d, d = j - k := ⟨_, rfl⟩
       rw [← ed] at hsb hs20 hcut hcv
       have HEd := hide ed
       generalize (if c = k then 0 else k) = oo at *
       generalize c - k = cc2 at *
       clear eWc eWd ets htw hw1 hw2 hL ed he hLc HTw
       go_upto_region 13 with fail
       rw [← HWc.out]
       go_upto_region 14 with fail
       rw [← HWd.out]
       clear a0 z0 a1 z1 hcut hcv
       by_cases h20 : 20 < d
       ·have h20' := (lx_20 hkj HEd.out).2 h20
        have htt : tokL (l.drop k) k = (⟨5, tx [], 0, k⟩, 0) := by rw [HTt.out, if_pos (by rw [← HEd.out]; exact h20)]
        have HT9 : Hid ((⟨5, tx [], 0, k⟩ : To) = tokT l m) := by show _ = _; rw [HTk.out, htt]
        clear htt hs20 h20
        have y0 := hLd.q5 (j := 0) rfl
        have y1 := hLd.q5 (j := 1) rfl
        have y2 := hLd.q5 (j := 2) rfl
        have y3 := hLd.q5 (j := 3) rfl
        obtain ⟨W9, eW9⟩ : ∃ W9, W9 = Wd.alloc (.cells #[.int .i64 5, .string ⟨#[]⟩, .int .i64 0, .int .i64 (k : Int)] 55) := ⟨_, rfl⟩
        obtain ⟨B9, eB9⟩ : ∃ B9, B9 = Wd.heap.size := ⟨_, rfl⟩
        obtain ⟨v9, w9, r9, a9, b9, x9⟩ := hLd.app (⟨5, tx [], 0, k⟩) HTl.out eW9 eB9
        have HW9 := hide eW9
        have HB9 := hide eB9
        have HR9 := hide r9
        have HF := hide (lex_fin HLx.out (HT9.out) (by show (4 : Int) ≤ 5; decide) a9 b9)
        clear eW9 eB9 r9 a9 b9 x9
        go_wp2_with (at_builtin; rw [← HW9.out, ← HB9.out]; refine wpList_appG rfl _ _ _ rfl _ _ v9 w9 rfl rfl HR9.out ?_)
        go_ret
        exact HF.out
       ·have h20' : ¬ (20 : Int) < (j : Int) - (k : Int) := fun e => h20 ((lx_20 hkj HEd.out).1 e)
        have htt : tokL (l.drop k) k = (⟨1, ts, 0, k⟩, j - k) := by rw [HTt.out, if_neg (by rw [← HEd.out]; exact h20), HEt.out]
        have HT9 : Hid ((⟨1, ts, 0, k⟩ : To) = tokT l m) := by show _ = _; rw [HTk.out, htt]
        have HJ9 : Hid (j = endT l (m + 1)) := by show _ = _; rw [HEn.out, htt]; exact (lx_addsub hkj).symm
        clear htt hs20 h20
        have y0 := (hLd.q6 (j := 0) rfl).1
        have y1 := (hLd.q6 (j := 1) rfl).1
        have y2 := (hLd.q6 (j := 2) rfl).1
        have y3 := (hLd.q6 (j := 3) rfl).1
        obtain ⟨W9, eW9⟩ : ∃ W9, W9 = Wd.alloc (.cells #[.int .i64 1, .string ts, .int .i64 0, .int .i64 (k : Int)] 55) := ⟨_, rfl⟩
        obtain ⟨B9, eB9⟩ : ∃ B9, B9 = Wd.heap.size := ⟨_, rfl⟩
        obtain ⟨v9, w9, r9, a9, b9, x9⟩ := hLd.app (⟨1, ts, 0, k⟩) HTl.out eW9 eB9
        have HW9 := hide eW9
        have HB9 := hide eB9
        have HR9 := hide r9
        have HF := hide (lex_go (j := j) HLx.out (HT9.out) (by show (1 : Int) ≤ 3; decide) (HJ9.out) a9 b9 x9)
        clear eW9 eB9 r9 a9 b9 x9
        go_wp2_with (at_builtin; rw [← HW9.out, ← HB9.out]; refine wpList_appG rfl _ _ _ rfl _ _ v9 w9 rfl rfl HR9.out ?_)
        go_roundw
        case rel => exact HF.out
        case measure => simp only [Array.getD, RowKit.intOf] at *; simp [RowKit.intOf]; exact lx_meas2 hk (hkj')
    | false =>
     cases hg : digU l[k] with
     | true =>
      have hs1 : smallB (cI l[k]) = false := hf
      have hs2 : digitB (cI l[k]) = true := hg
      have HTw : Hid (∀ j, (l.drop k).takeWhile digU = (l.drop k).take (j - k) → j - k ≤ (l.drop k).length → (badS l k j → tokL (l.drop k) k = (⟨5, tx [], 0, k⟩, 0)) ∧ (¬ badS l k j → tokL (l.drop k) k = (⟨2, tx [], (numL ((l.drop k).take (j - k)) : Int), k⟩, j - k))) := fun j h1 h2 => tok_numS hk hf hg h1 h2 (Classical.em _)
      have HDg := hide hg
      have HZ : Hid ((cI l[k] == 48) = decide (l[k]? = some 48)) := by show _ = _; rw [cG48, List.getElem?_eq_getElem hk]; simp
      have HN0 : Hid (numC ((l.drop k).take (k - k)) 0) := by show numC _ _; rw [take_zero]; exact numC_nil
      have HL0 := hide hL
      clear hf hg
      generalize hcc : cI l[k] = cc at *
      have HCc := hide hcc
      clear hcc hL
      go_wp2_with (first | (go_at_call 45; refine (first_any _ _).mono ?_; rintro e w' ⟨rfl, hw⟩; rw [hw, hs1]; clear hw) | (go_at_call 47; refine (digG_any _ _).mono ?_; rintro e w' ⟨rfl, hw⟩; rw [hw, hs2]; clear hw))
      clear hck
      go_loopw [7] (fun jv wv => ∃ (j : Nat) (x : Int), jv = .int .i64 (j : Int) ∧ k ≤ j ∧ j ≤ l.length ∧ (∀ y (hy : y < l.length), k ≤ y → y < j → digU l[y] = true) ∧ numC ((l.drop k).take (j - k)) x ∧ LB w b l u3 ((List.range m).map (tokT l)) M5 M6 [.int .i64 0, .string ⟨#[]⟩, .int .i64 x, .int .i64 (k : Int)] k wv) (fun jv _ => l.length - (RowKit.intOf jv).toNat)
      case atStart => exact ⟨k, 0, rfl, Nat.le_refl _, Nat.le_of_lt hk, fun x _ h1 h2 => absurd h1 (Nat.not_le_of_lt h2), HN0.out, HL0.out⟩
      case round =>
       clear HL0 HN0 hs1 hs2
       obtain ⟨j, x, rfl, hkj, hjl, hall, hnum, hLr⟩ := hrel
       have HAll := hide hall
       clear hall
       obtain ⟨hx0, hx1⟩ := numC_bd hnum
       by_cases hjl2 : j < l.length
       ·have hcj := hLr.tx j hjl2
        have hjc := lx_lt hjl2
        cases hla : digU l[j] with
        | true =>
         have hs2 : digitB (cI l[j]) = true := hla
         have HN := hide (lx_more HAll.out hjl2 hla)
         have hw1 := lx_w1 hjl hl
         obtain hbd := dig_bd hla
         have c2 := (hLr.q6 (j := 2) rfl).1
         have f2 := (hLr.q6 (j := 2) rfl).2
         have htm := take_more hkj hjl2
         by_cases hx : x < 10000000000
         ·have HNc : Hid (numC ((l.drop k).take (j + 1 - k)) (10 * x + (cI l[j] - 48))) := by show numC _ _; rw [htm]; exact numC_step hnum hla hx
          obtain ⟨n1, n2, n3, n4⟩ := lx_num hx0 hx hbd
          generalize cI l[j] = cj at *
          obtain ⟨Wn, eWn⟩ : ∃ Wn, Wn = wr.setCell ⟨M6, 2, none⟩ (.int .i64 (10 * x + (cj - 48))) := ⟨_, rfl⟩
          have hLn := hLr.put 2 (.int .i64 (10 * x + (cj - 48))) eWn
          simp only [List.set_cons_zero, List.set_cons_succ] at hLn
          have HLn := hide (hLn.below (W' := Wn.drew) ((Below.refl _ _).drew))
          have HWn := hide eWn
          clear eWn hLn hLr hnum HTw HAll htm hla hx0 hx1 hbd
          go_upto_region 19 with (go_at_call 47; refine (digG_any _ _).mono ?_; rintro e w' ⟨rfl, hw⟩; rw [hw, hs2]; clear hw)
          go_region
          rw [← HWn.out]
          go_wp2_with fail
          go_roundw
          case rel => exact ⟨j + 1, _, by go_num, Nat.le_succ_of_le hkj, hjl2, HN.out, HNc.out, HLn.out⟩
          case measure => simp [RowKit.intOf]; exact lx_meas hjl2
         ·have HNc : Hid (numC ((l.drop k).take (j + 1 - k)) x) := by show numC _ _; rw [htm]; exact numC_stay hnum hx
          have HLn := hide hLr
          generalize cI l[j] = cj at *
          clear hLr hnum HTw HAll htm hla hx0 hx1 hbd
          go_wp2_with (go_at_call 47; refine (digG_any _ _).mono ?_; rintro e w' ⟨rfl, hw⟩; rw [hw, hs2]; clear hw)
          go_roundw
          case rel => exact ⟨j + 1, x, by go_num, Nat.le_succ_of_le hkj, hjl2, HN.out, HNc.out, HLn.out⟩
          case measure => simp [RowKit.intOf]; exact lx_meas hjl2
        | false =>
         have hs2 : digitB (cI l[j]) = false := hla
         have he : ∀ hx : j < l.length, digU l[j] = false := fun _ => hla
         generalize hcjj : cI l[j] = cj at *
         have HCj := hide hcjj
         clear hcjj
         obtain ⟨hw1, hw2⟩ := end_tw digU hkj hjl HAll.out he
         have htw := HTw.out j hw1 hw2
         have hkj' := lx_pos (p := digU) hk HDg.out hkj he
         obtain ⟨hnb, hne⟩ := numC_big hnum
         obtain ⟨Wc, eWc⟩ : ∃ Wc, Wc = wr.setCell ⟨M6, 0, none⟩ (.int .i64 2) := ⟨_, rfl⟩
         have hLc := hLr.put 0 (.int .i64 2) eWc
         simp only [List.set_cons_zero, List.set_cons_succ] at hLc
         have a0 := (hLr.q6 (j := 0) rfl).1
         have z0 := (hLr.q6 (j := 0) rfl).2
         have y2 := (hLc.q6 (j := 2) rfl).1
         have hck2 : Wc.cell? ⟨b, k, none⟩ = some (.int .u8 cc) := (hLc.tx k hk).trans (by rw [HCc.out])
         have hw3 := lx_w1 (Nat.le_of_lt hk) hl
         have HWc := hide eWc
         have HTt := hide htw
         have HNb := hide hnb
         have HNe := hide hne
         have HB : Hid (badS l k j → (⟨5, tx [], 0, k⟩ : To) = tokT l m) := fun h => by show _ = _; rw [HTk.out, HTt.out.1 h]
         have HG : Hid (¬ badS l k j → x ≤ 2147483647 → (⟨2, tx [], x, k⟩ : To) = tokT l m ∧ j = endT l (m + 1)) := fun h hx => by
          rw [HTk.out, HEn.out, HTt.out.2 h, HNe.out hx]
          exact ⟨rfl, (lx_addsub hkj).symm⟩
         clear htw hw1 hw2 eWc hLr hnb hne HTw
         go_upto_region 22 with (go_at_call 47; refine (digG_any _ _).mono ?_; rintro e w' ⟨rfl, hw⟩; rw [hw, hs2]; clear hw)
         rw [← HWc.out]
         clear a0 z0
         by_cases hz : l[k]? = some 48 ∧ 1 < j - k
         ·have g1 : (cc == 48) = true := by rw [HZ.out]; simp [hz.1]
          have g2 : (k : Int) + 1 < (j : Int) := lx_gt1.2 hz.2
          have HT9 := hide (HB.out (.inl hz))
          clear HB HG hz
          have y0 := hLc.q5 (j := 0) rfl
          have y1 := hLc.q5 (j := 1) rfl
          have y2 := hLc.q5 (j := 2) rfl
          have y3 := hLc.q5 (j := 3) rfl
          obtain ⟨W9, eW9⟩ : ∃ W9, W9 = Wc.alloc (.cells #[.int .i64 5, .string ⟨#[]⟩, .int .i64 0, .int .i64 (k : Int)] 55) := ⟨_, rfl⟩
          obtain ⟨B9, eB9⟩ : ∃ B9, B9 = Wc.heap.size := ⟨_, rfl⟩
          obtain ⟨v9, w9, r9, a9, b9, x9⟩ := hLc.app (⟨5, tx [], 0, k⟩) HTl.out eW9 eB9
          have HW9 := hide eW9
          have HB9 := hide eB9
          have HR9 := hide r9
          have HF := hide (lex_fin HLx.out (HT9.out) (by show (4 : Int) ≤ 5; decide) a9 b9)
          clear eW9 eB9 r9 a9 b9 x9
          go_wp2_with (at_builtin; rw [← HW9.out, ← HB9.out]; refine wpList_appG rfl _ _ _ rfl _ _ v9 w9 rfl rfl HR9.out ?_)
          go_ret
          exact HF.out
         ·by_cases hbg : 2147483647 < x
          ·have HT9 := hide (HB.out (.inr (.inl (HNb.out.1 hbg))))
           clear HB HG
           by_cases h4 : l[k]? = some 48
           ·have g1 : (cc == 48) = true := by rw [HZ.out]; simp [h4]
            have g2 : ¬ (k : Int) + 1 < (j : Int) := fun e => hz ⟨h4, lx_gt1.1 e⟩
            have y0 := hLc.q5 (j := 0) rfl
            have y1 := hLc.q5 (j := 1) rfl
            have y2 := hLc.q5 (j := 2) rfl
            have y3 := hLc.q5 (j := 3) rfl
            obtain ⟨W9, eW9⟩ : ∃ W9, W9 = Wc.alloc (.cells #[.int .i64 5, .string ⟨#[]⟩, .int .i64 0, .int .i64 (k : Int)] 55) := ⟨_, rfl⟩
            obtain ⟨B9, eB9⟩ : ∃ B9, B9 = Wc.heap.size := ⟨_, rfl⟩
            obtain ⟨v9, w9, r9, a9, b9, x9⟩ := hLc.app (⟨5, tx [], 0, k⟩) HTl.out eW9 eB9
            have HW9 := hide eW9
            have HB9 := hide eB9
            have HR9 := hide r9
            have HF := hide (lex_fin HLx.out (HT9.out) (by show (4 : Int) ≤ 5; decide) a9 b9)
            clear eW9 eB9 r9 a9 b9 x9
            go_wp2_with (at_builtin; rw [← HW9.out, ← HB9.out]; refine wpList_appG rfl _ _ _ rfl _ _ v9 w9 rfl rfl HR9.out ?_)
            go_ret
            exact HF.out
           ·have g1 : (cc == 48) = false := by rw [HZ.out]; simp [h4]
            have y0 := hLc.q5 (j := 0) rfl
            have y1 := hLc.q5 (j := 1) rfl
            have y2 := hLc.q5 (j := 2) rfl
            have y3 := hLc.q5 (j := 3) rfl
            obtain ⟨W9, eW9⟩ : ∃ W9, W9 = Wc.alloc (.cells #[.int .i64 5, .string ⟨#[]⟩, .int .i64 0, .int .i64 (k : Int)] 55) := ⟨_, rfl⟩
            obtain ⟨B9, eB9⟩ : ∃ B9, B9 = Wc.heap.size := ⟨_, rfl⟩
            obtain ⟨v9, w9, r9, a9, b9, x9⟩ := hLc.app (⟨5, tx [], 0, k⟩) HTl.out eW9 eB9
            have HW9 := hide eW9
            have HB9 := hide eB9
            have HR9 := hide r9
            have HF := hide (lex_fin HLx.out (HT9.out) (by show (4 : Int) ≤ 5; decide) a9 b9)
            clear eW9 eB9 r9 a9 b9 x9
            go_wp2_with (at_builtin; rw [← HW9.out, ← HB9.out]; refine wpList_appG rfl _ _ _ rfl _ _ v9 w9 rfl rfl HR9.out ?_)
            go_ret
            exact HF.out
          ·have hcj2 : Wc.cell? ⟨b, j, none⟩ = some (.int .u8 cj) := (hLc.tx j hjl2).trans (by rw [HCj.out])
           cases hs3 : smallB cj with
           | true =>
            have HT9 := hide (HB.out (.inr (.inr (by rw [lx_addsub hkj, List.head?_drop, List.getElem?_eq_getElem hjl2]; show fstU l[j] = true; unfold fstU; rw [HCj.out]; exact hs3))))
            clear HB HG
            by_cases h4 : l[k]? = some 48
            ·have g1 : (cc == 48) = true := by rw [HZ.out]; simp [h4]
             have g2 : ¬ (k : Int) + 1 < (j : Int) := fun e => hz ⟨h4, lx_gt1.1 e⟩
             have y0 := hLc.q5 (j := 0) rfl
             have y1 := hLc.q5 (j := 1) rfl
             have y2 := hLc.q5 (j := 2) rfl
             have y3 := hLc.q5 (j := 3) rfl
             obtain ⟨W9, eW9⟩ : ∃ W9, W9 = Wc.alloc (.cells #[.int .i64 5, .string ⟨#[]⟩, .int .i64 0, .int .i64 (k : Int)] 55) := ⟨_, rfl⟩
             obtain ⟨B9, eB9⟩ : ∃ B9, B9 = Wc.heap.size := ⟨_, rfl⟩
             obtain ⟨v9, w9, r9, a9, b9, x9⟩ := hLc.app (⟨5, tx [], 0, k⟩) HTl.out eW9 eB9
             have HW9 := hide eW9
             have HB9 := hide eB9
             have HR9 := hide r9
             have HF := hide (lex_fin HLx.out (HT9.out) (by show (4 : Int) ≤ 5; decide) a9 b9)
             clear eW9 eB9 r9 a9 b9 x9
             go_upto_region 23 with (go_at_call 45; refine (first_any _ _).mono ?_; rintro e w' ⟨rfl, hw⟩; rw [hw, hs3]; clear hw)
             go_wp2_with (at_builtin; rw [← HW9.out, ← HB9.out]; refine wpList_appG rfl _ _ _ rfl _ _ v9 w9 rfl rfl HR9.out ?_)
             go_ret
             exact HF.out
            ·have g1 : (cc == 48) = false := by rw [HZ.out]; simp [h4]
             have y0 := hLc.q5 (j := 0) rfl
             have y1 := hLc.q5 (j := 1) rfl
             have y2 := hLc.q5 (j := 2) rfl
             have y3 := hLc.q5 (j := 3) rfl
             obtain ⟨W9, eW9⟩ : ∃ W9, W9 = Wc.alloc (.cells #[.int .i64 5, .string ⟨#[]⟩, .int .i64 0, .int .i64 (k : Int)] 55) := ⟨_, rfl⟩
             obtain ⟨B9, eB9⟩ : ∃ B9, B9 = Wc.heap.size := ⟨_, rfl⟩
             obtain ⟨v9, w9, r9, a9, b9, x9⟩ := hLc.app (⟨5, tx [], 0, k⟩) HTl.out eW9 eB9
             have HW9 := hide eW9
             have HB9 := hide eB9
             have HR9 := hide r9
             have HF := hide (lex_fin HLx.out (HT9.out) (by show (4 : Int) ≤ 5; decide) a9 b9)
             clear eW9 eB9 r9 a9 b9 x9
             go_upto_region 23 with (go_at_call 45; refine (first_any _ _).mono ?_; rintro e w' ⟨rfl, hw⟩; rw [hw, hs3]; clear hw)
             go_wp2_with (at_builtin; rw [← HW9.out, ← HB9.out]; refine wpList_appG rfl _ _ _ rfl _ _ v9 w9 rfl rfl HR9.out ?_)
             go_ret
             exact HF.out
           | false =>
            have HT9 := hide (HG.out (by
             rintro (hh | hh | hh)
             ·exact hz hh
             ·exact hbg (HNb.out.2 hh)
             ·rw [lx_addsub hkj, List.head?_drop, List.getElem?_eq_getElem hjl2] at hh
              have : fstU l[j] = true := hh
              unfold fstU at this
              rw [HCj.out, hs3] at this
              cases this) (Int.not_lt.1 hbg))
            clear HB HG
            by_cases h4 : l[k]? = some 48
            ·have g1 : (cc == 48) = true := by rw [HZ.out]; simp [h4]
             have g2 : ¬ (k : Int) + 1 < (j : Int) := fun e => hz ⟨h4, lx_gt1.1 e⟩
             have y0 := (hLc.q6 (j := 0) rfl).1
             have y1 := (hLc.q6 (j := 1) rfl).1
             have y2' := (hLc.q6 (j := 2) rfl).1
             have y3 := (hLc.q6 (j := 3) rfl).1
             obtain ⟨W9, eW9⟩ : ∃ W9, W9 = Wc.alloc (.cells #[.int .i64 2, .string ⟨#[]⟩, .int .i64 x, .int .i64 (k : Int)] 55) := ⟨_, rfl⟩
             obtain ⟨B9, eB9⟩ : ∃ B9, B9 = Wc.heap.size := ⟨_, rfl⟩
             obtain ⟨v9, w9, r9, a9, b9, x9⟩ := hLc.app (⟨2, tx [], x, k⟩) HTl.out eW9 eB9
             have HW9 := hide eW9
             have HB9 := hide eB9
             have HR9 := hide r9
             have HF := hide (lex_go (j := j) HLx.out (HT9.out.1) (by show (2 : Int) ≤ 3; decide) (HT9.out.2) a9 b9 x9)
             clear eW9 eB9 r9 a9 b9 x9
             go_upto_region 29 with (go_at_call 45; refine (first_any _ _).mono ?_; rintro e w' ⟨rfl, hw⟩; rw [hw, hs3]; clear hw)
             go_wp2_with (at_builtin; rw [← HW9.out, ← HB9.out]; refine wpList_appG rfl _ _ _ rfl _ _ v9 w9 rfl rfl HR9.out ?_)
             go_roundw
             case rel => exact HF.out
             case measure => simp only [Array.getD, RowKit.intOf] at *; simp [RowKit.intOf]; exact lx_meas2 hk (hkj')
            ·have g1 : (cc == 48) = false := by rw [HZ.out]; simp [h4]
             have y0 := (hLc.q6 (j := 0) rfl).1
             have y1 := (hLc.q6 (j := 1) rfl).1
             have y2' := (hLc.q6 (j := 2) rfl).1
             have y3 := (hLc.q6 (j := 3) rfl).1
             obtain ⟨W9, eW9⟩ : ∃ W9, W9 = Wc.alloc (.cells #[.int .i64 2, .string ⟨#[]⟩, .int .i64 x, .int .i64 (k : Int)] 55) := ⟨_, rfl⟩
             obtain ⟨B9, eB9⟩ : ∃ B9, B9 = Wc.heap.size := ⟨_, rfl⟩
             obtain ⟨v9, w9, r9, a9, b9, x9⟩ := hLc.app (⟨2, tx [], x, k⟩) HTl.out eW9 eB9
             have HW9 := hide eW9
             have HB9 := hide eB9
             have HR9 := hide r9
             have HF := hide (lex_go (j := j) HLx.out (HT9.out.1) (by show (2 : Int) ≤ 3; decide) (HT9.out.2) a9 b9 x9)
             clear eW9 eB9 r9 a9 b9 x9
             go_upto_region 29 with (go_at_call 45; refine (first_any _ _).mono ?_; rintro e w' ⟨rfl, hw⟩; rw [hw, hs3]; clear hw)
             go_wp2_with (at_builtin; rw [← HW9.out, ← HB9.out]; refine wpList_appG rfl _ _ _ rfl _ _ v9 w9 rfl rfl HR9.out ?_)
             go_roundw
             case rel => exact HF.out
             case measure => simp only [Array.getD, RowKit.intOf] at *; simp [RowKit.intOf]; exact lx_meas2 hk (hkj')
       ·have hjc := lx_nlt hjl2
        have he : ∀ hx : j < l.length, digU l[j] = false := fun hx => absurd hx hjl2
        obtain ⟨hw1, hw2⟩ := end_tw digU hkj hjl HAll.out he
        have htw := HTw.out j hw1 hw2
        have hkj' := lx_pos (p := digU) hk HDg.out hkj he
        obtain ⟨hnb, hne⟩ := numC_big hnum
        obtain ⟨Wc, eWc⟩ : ∃ Wc, Wc = wr.setCell ⟨M6, 0, none⟩ (.int .i64 2) := ⟨_, rfl⟩
        have hLc := hLr.put 0 (.int .i64 2) eWc
        simp only [List.set_cons_zero, List.set_cons_succ] at hLc
        have a0 := (hLr.q6 (j := 0) rfl).1
        have z0 := (hLr.q6 (j := 0) rfl).2
        have y2 := (hLc.q6 (j := 2) rfl).1
        have hck2 : Wc.cell? ⟨b, k, none⟩ = some (.int .u8 cc) := (hLc.tx k hk).trans (by rw [HCc.out])
        have hw3 := lx_w1 (Nat.le_of_lt hk) hl
        have HWc := hide eWc
        have HTt := hide htw
        have HNb := hide hnb
        have HNe := hide hne
        have HB : Hid (badS l k j → (⟨5, tx [], 0, k⟩ : To) = tokT l m) := fun h => by show _ = _; rw [HTk.out, HTt.out.1 h]
        have HG : Hid (¬ badS l k j → x ≤ 2147483647 → (⟨2, tx [], x, k⟩ : To) = tokT l m ∧ j = endT l (m + 1)) := fun h hx => by
         rw [HTk.out, HEn.out, HTt.out.2 h, HNe.out hx]
         exact ⟨rfl, (lx_addsub hkj).symm⟩
        clear htw hw1 hw2 eWc hLr hnb hne HTw
        go_upto_region 22 with fail
        rw [← HWc.out]
        clear a0 z0
        by_cases hz : l[k]? = some 48 ∧ 1 < j - k
        ·have g1 : (cc == 48) = true := by rw [HZ.out]; simp [hz.1]
         have g2 : (k : Int) + 1 < (j : Int) := lx_gt1.2 hz.2
         have HT9 := hide (HB.out (.inl hz))
         clear HB HG hz
         have y0 := hLc.q5 (j := 0) rfl
         have y1 := hLc.q5 (j := 1) rfl
         have y2 := hLc.q5 (j := 2) rfl
         have y3 := hLc.q5 (j := 3) rfl
         obtain ⟨W9, eW9⟩ : ∃ W9, W9 = Wc.alloc (.cells #[.int .i64 5, .string ⟨#[]⟩, .int .i64 0, .int .i64 (k : Int)] 55) := ⟨_, rfl⟩
         obtain ⟨B9, eB9⟩ : ∃ B9, B9 = Wc.heap.size := ⟨_, rfl⟩
         obtain ⟨v9, w9, r9, a9, b9, x9⟩ := hLc.app (⟨5, tx [], 0, k⟩) HTl.out eW9 eB9
         have HW9 := hide eW9
         have HB9 := hide eB9
         have HR9 := hide r9
         have HF := hide (lex_fin HLx.out (HT9.out) (by show (4 : Int) ≤ 5; decide) a9 b9)
         clear eW9 eB9 r9 a9 b9 x9
         go_wp2_with (at_builtin; rw [← HW9.out, ← HB9.out]; refine wpList_appG rfl _ _ _ rfl _ _ v9 w9 rfl rfl HR9.out ?_)
         go_ret
         exact HF.out
        ·by_cases hbg : 2147483647 < x
         ·have HT9 := hide (HB.out (.inr (.inl (HNb.out.1 hbg))))
          clear HB HG
          by_cases h4 : l[k]? = some 48
          ·have g1 : (cc == 48) = true := by rw [HZ.out]; simp [h4]
           have g2 : ¬ (k : Int) + 1 < (j : Int) := fun e => hz ⟨h4, lx_gt1.1 e⟩
           have y0 := hLc.q5 (j := 0) rfl
           have y1 := hLc.q5 (j := 1) rfl
           have y2 := hLc.q5 (j := 2) rfl
           have y3 := hLc.q5 (j := 3) rfl
           obtain ⟨W9, eW9⟩ : ∃ W9, W9 = Wc.alloc (.cells #[.int .i64 5, .string ⟨#[]⟩, .int .i64 0, .int .i64 (k : Int)] 55) := ⟨_, rfl⟩
           obtain ⟨B9, eB9⟩ : ∃ B9, B9 = Wc.heap.size := ⟨_, rfl⟩
           obtain ⟨v9, w9, r9, a9, b9, x9⟩ := hLc.app (⟨5, tx [], 0, k⟩) HTl.out eW9 eB9
           have HW9 := hide eW9
           have HB9 := hide eB9
           have HR9 := hide r9
           have HF := hide (lex_fin HLx.out (HT9.out) (by show (4 : Int) ≤ 5; decide) a9 b9)
           clear eW9 eB9 r9 a9 b9 x9
           go_wp2_with (at_builtin; rw [← HW9.out, ← HB9.out]; refine wpList_appG rfl _ _ _ rfl _ _ v9 w9 rfl rfl HR9.out ?_)
           go_ret
           exact HF.out
          ·have g1 : (cc == 48) = false := by rw [HZ.out]; simp [h4]
           have y0 := hLc.q5 (j := 0) rfl
           have y1 := hLc.q5 (j := 1) rfl
           have y2 := hLc.q5 (j := 2) rfl
           have y3 := hLc.q5 (j := 3) rfl
           obtain ⟨W9, eW9⟩ : ∃ W9, W9 = Wc.alloc (.cells #[.int .i64 5, .string ⟨#[]⟩, .int .i64 0, .int .i64 (k : Int)] 55) := ⟨_, rfl⟩
           obtain ⟨B9, eB9⟩ : ∃ B9, B9 = Wc.heap.size := ⟨_, rfl⟩
           obtain ⟨v9, w9, r9, a9, b9, x9⟩ := hLc.app (⟨5, tx [], 0, k⟩) HTl.out eW9 eB9
           have HW9 := hide eW9
           have HB9 := hide eB9
           have HR9 := hide r9
           have HF := hide (lex_fin HLx.out (HT9.out) (by show (4 : Int) ≤ 5; decide) a9 b9)
           clear eW9 eB9 r9 a9 b9 x9
           go_wp2_with (at_builtin; rw [← HW9.out, ← HB9.out]; refine wpList_appG rfl _ _ _ rfl _ _ v9 w9 rfl rfl HR9.out ?_)
           go_ret
           exact HF.out
         ·have HT9 := hide (HG.out (by
           rintro (hh | hh | hh)
           ·exact hz hh
           ·exact hbg (HNb.out.2 hh)
           ·rw [lx_addsub hkj, List.head?_drop, List.getElem?_eq_none (Nat.le_of_not_lt hjl2)] at hh
            cases hh) (Int.not_lt.1 hbg))
          clear HB HG
          by_cases h4 : l[k]? = some 48
          ·have g1 : (cc == 48) = true := by rw [HZ.out]; simp [h4]
           have g2 : ¬ (k : Int) + 1 < (j : Int) := fun e => hz ⟨h4, lx_gt1.1 e⟩
           have y0 := (hLc.q6 (j := 0) rfl).1
           have y1 := (hLc.q6 (j := 1) rfl).1
           have y2' := (hLc.q6 (j := 2) rfl).1
           have y3 := (hLc.q6 (j := 3) rfl).1
           obtain ⟨W9, eW9⟩ : ∃ W9, W9 = Wc.alloc (.cells #[.int .i64 2, .string ⟨#[]⟩, .int .i64 x, .int .i64 (k : Int)] 55) := ⟨_, rfl⟩
           obtain ⟨B9, eB9⟩ : ∃ B9, B9 = Wc.heap.size := ⟨_, rfl⟩
           obtain ⟨v9, w9, r9, a9, b9, x9⟩ := hLc.app (⟨2, tx [], x, k⟩) HTl.out eW9 eB9
           have HW9 := hide eW9
           have HB9 := hide eB9
           have HR9 := hide r9
           have HF := hide (lex_go (j := j) HLx.out (HT9.out.1) (by show (2 : Int) ≤ 3; decide) (HT9.out.2) a9 b9 x9)
           clear eW9 eB9 r9 a9 b9 x9
           go_wp2_with (at_builtin; rw [← HW9.out, ← HB9.out]; refine wpList_appG rfl _ _ _ rfl _ _ v9 w9 rfl rfl HR9.out ?_)
           go_roundw
           case rel => exact HF.out
           case measure => simp only [Array.getD, RowKit.intOf] at *; simp [RowKit.intOf]; exact lx_meas2 hk (hkj')
          ·have g1 : (cc == 48) = false := by rw [HZ.out]; simp [h4]
           have y0 := (hLc.q6 (j := 0) rfl).1
           have y1 := (hLc.q6 (j := 1) rfl).1
           have y2' := (hLc.q6 (j := 2) rfl).1
           have y3 := (hLc.q6 (j := 3) rfl).1
           obtain ⟨W9, eW9⟩ : ∃ W9, W9 = Wc.alloc (.cells #[.int .i64 2, .string ⟨#[]⟩, .int .i64 x, .int .i64 (k : Int)] 55) := ⟨_, rfl⟩
           obtain ⟨B9, eB9⟩ : ∃ B9, B9 = Wc.heap.size := ⟨_, rfl⟩
           obtain ⟨v9, w9, r9, a9, b9, x9⟩ := hLc.app (⟨2, tx [], x, k⟩) HTl.out eW9 eB9
           have HW9 := hide eW9
           have HB9 := hide eB9
           have HR9 := hide r9
           have HF := hide (lex_go (j := j) HLx.out (HT9.out.1) (by show (2 : Int) ≤ 3; decide) (HT9.out.2) a9 b9 x9)
           clear eW9 eB9 r9 a9 b9 x9
           go_wp2_with (at_builtin; rw [← HW9.out, ← HB9.out]; refine wpList_appG rfl _ _ _ rfl _ _ v9 w9 rfl rfl HR9.out ?_)
           go_roundw
           case rel => exact HF.out
           case measure => simp only [Array.getD, RowKit.intOf] at *; simp [RowKit.intOf]; exact lx_meas2 hk (hkj')
     | false =>
      have hs1 : smallB (cI l[k]) = false := hf
      have hs2 : digitB (cI l[k]) = false := hg
      have HTw := hide (tok_sym hk hf hg)
      clear hf hg
      obtain ⟨Wc, eWc⟩ : ∃ Wc, Wc = Wb.setCell ⟨M6, 0, none⟩ (.int .i64 3) := ⟨_, rfl⟩
      have hLc := hL.put 0 (.int .i64 3) eWc
      simp only [List.set_cons_zero, List.set_cons_succ] at hLc
      have a0 := (hL.q6 (j := 0) rfl).1
      have z0 := (hL.q6 (j := 0) rfl).2
      have HSy := hide (symbol_any Wc b c l k hLc.tx (Nat.lt_of_lt_of_le hLc.bw hLc.be.size) hk (Nat.le_trans hl (by decide)) hc)
      have HWc := hide eWc
      generalize hcc : cI l[k] = cc at *
      clear hcc eWc hL
      go_upto_region 25 with (first | (go_at_call 45; refine (first_any _ _).mono ?_; rintro e w' ⟨rfl, hw⟩; rw [hw, hs1]; clear hw) | (go_at_call 47; refine (digG_any _ _).mono ?_; rintro e w' ⟨rfl, hw⟩; rw [hw, hs2]; clear hw))
      rw [← HWc.out]
      clear a0 z0
      go_wp2_with fail
      refine HSy.out.mono ?_
      rintro e w5 ⟨rfl, hb5⟩
      have hL5 := hLc.below hb5
      obtain ⟨ts, ets⟩ : ∃ ts, ts = tx (symL (l.drop k)) := ⟨_, rfl⟩
      rw [← ets]
      obtain ⟨Wd, eWd⟩ : ∃ Wd, Wd = w5.setCell ⟨M6, 1, none⟩ (.string ts) := ⟨_, rfl⟩
      have hLd := hL5.put 1 (.string ts) eWd
      simp only [List.set_cons_zero, List.set_cons_succ] at hLd
      have a1 := (hL5.q6 (j := 1) rfl).1
      have z1 := (hL5.q6 (j := 1) rfl).2
      have y1 := (hLd.q6 (j := 1) rfl).1
      obtain ⟨ln, eln⟩ : ∃ ln, ln = (symL (l.drop k)).length := ⟨_, rfl⟩
      have hsz : ts.size = ln := by rw [ets, tx_size, eln]
      have hln2 : ln ≤ 2 := by rw [eln]; exact (symL_len _).2
      have hwa := sym_addw (k := k) (Nat.le_trans (Nat.le_of_lt hk) hl) hln2
      have hem : (ts.toList == []) = decide (symL (l.drop k) = []) := by
       rw [ets, tx_toG]
       apply Bool.eq_iff_iff.2
       simp
      have HWd := hide eWd
      have HEt := hide ets
      have HEl := hide eln
      clear eWd ets hLc hL5 hb5 HSy eln
      go_upto_region 26 with fail
      rw [← HWd.out]
      clear a1 z1
      by_cases hs : symL (l.drop k) = []
      ·have hem' : (ts.toList == []) = true := by rw [hem]; simp [hs]
       have htt : tokL (l.drop k) k = (⟨5, tx [], 0, k⟩, 0) := by rw [HTw.out, if_pos hs]
       have HT9 : Hid ((⟨5, tx [], 0, k⟩ : To) = tokT l m) := by show _ = _; rw [HTk.out, htt]
       clear htt hem hs HTw
       have y0 := hLd.q5 (j := 0) rfl
       have y1' := hLd.q5 (j := 1) rfl
       have y2 := hLd.q5 (j := 2) rfl
       have y3 := hLd.q5 (j := 3) rfl
       obtain ⟨W9, eW9⟩ : ∃ W9, W9 = Wd.alloc (.cells #[.int .i64 5, .string ⟨#[]⟩, .int .i64 0, .int .i64 (k : Int)] 55) := ⟨_, rfl⟩
       obtain ⟨B9, eB9⟩ : ∃ B9, B9 = Wd.heap.size := ⟨_, rfl⟩
       obtain ⟨v9, w9, r9, a9, b9, x9⟩ := hLd.app (⟨5, tx [], 0, k⟩) HTl.out eW9 eB9
       have HW9 := hide eW9
       have HB9 := hide eB9
       have HR9 := hide r9
       have HF := hide (lex_fin HLx.out (HT9.out) (by show (4 : Int) ≤ 5; decide) a9 b9)
       clear eW9 eB9 r9 a9 b9 x9
       go_wp2_with (at_builtin; rw [← HW9.out, ← HB9.out]; refine wpList_appG rfl _ _ _ rfl _ _ v9 w9 rfl rfl HR9.out ?_)
       go_ret
       exact HF.out
      ·have hem' : (ts.toList == []) = false := by rw [hem]; simp [hs]
       have htt : tokL (l.drop k) k = (⟨3, ts, 0, k⟩, ln) := by rw [HTw.out, if_neg hs, HEt.out, HEl.out]
       have HT9 : Hid ((⟨3, ts, 0, k⟩ : To) = tokT l m) := by show _ = _; rw [HTk.out, htt]
       have HJ9 : Hid (k + ln = endT l (m + 1)) := by show _ = _; rw [HEn.out, htt]
       have hpos : k < k + ln := by
        have : ln ≠ 0 := fun e => hs (List.eq_nil_of_length_eq_zero (by rw [← HEl.out]; exact e))
        omega
       clear htt hem hs HTw
       have y0 := (hLd.q6 (j := 0) rfl).1
       have y1' := (hLd.q6 (j := 1) rfl).1
       have y2 := (hLd.q6 (j := 2) rfl).1
       have y3 := (hLd.q6 (j := 3) rfl).1
       obtain ⟨W9, eW9⟩ : ∃ W9, W9 = Wd.alloc (.cells #[.int .i64 3, .string ts, .int .i64 0, .int .i64 (k : Int)] 55) := ⟨_, rfl⟩
       obtain ⟨B9, eB9⟩ : ∃ B9, B9 = Wd.heap.size := ⟨_, rfl⟩
       obtain ⟨v9, w9, r9, a9, b9, x9⟩ := hLd.app (⟨3, ts, 0, k⟩) HTl.out eW9 eB9
       have HW9 := hide eW9
       have HB9 := hide eB9
       have HR9 := hide r9
       have HF := hide (lex_go (j := k + ln) HLx.out (HT9.out) (by show (3 : Int) ≤ 3; decide) (HJ9.out) a9 b9 x9)
       clear eW9 eB9 r9 a9 b9 x9
       go_wp2_with (at_builtin; rw [← HW9.out, ← HB9.out]; refine wpList_appG rfl _ _ _ rfl _ _ v9 w9 rfl rfl HR9.out ?_)
       go_roundw
       case rel => (have hF := HF.out; push_cast at hF; exact hF)
       case measure => simp only [Array.getD, RowKit.intOf] at *; simp [RowKit.intOf]; exact lx_meas2 hk (hpos)
  ·obtain rfl : k = l.length := Nat.le_antisymm hx.le (Nat.le_of_not_lt hk)
   skip
   have ht := lx_end HLx.out
   obtain ⟨W9, eW9⟩ : ∃ W9, W9 = wr.alloc (.cells #[.int .i64 4, .string ⟨#[]⟩, .int .i64 0, .int .i64 (l.length : Int)] 55) := ⟨_, rfl⟩
   obtain ⟨B9, eB9⟩ : ∃ B9, B9 = wr.heap.size := ⟨_, rfl⟩
   obtain ⟨v9, w9, r9, a9, b9⟩ := trow_app ⟨4, tx [], 0, l.length⟩ hr hbe.size HTl.out eW9 eB9
   have HF := hide (lex_fin HLx.out ht.symm (by show (4 : Int) ≤ 4; decide) a9 (hbe.trans b9))
   have HW9 := hide eW9
   have HB9 := hide eB9
   have HR9 := hide r9
   clear eW9 eB9 r9 a9 b9 ht hr hbe hT hx hk
   go_wp2_with (at_builtin; rw [← HW9.out, ← HB9.out]; refine wpList_appG rfl _ _ _ rfl _ _ v9 w9 rfl rfl HR9.out ?_)
   go_ret
   exact HF.out
end
end Go.Proofs.YtlamjfhhefcohaaGreatDoor
