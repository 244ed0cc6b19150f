import Derived.Test.YtlamjfhhefcohaaGreatDoorM33
import Derived.Test.YtlamjfhhefcohaaGreatDoorM30
import Derived.Deep.QuietTactic
import Derived.BigQuiet
namespace Go.Proofs.YtlamjfhhefcohaaGreatDoor
set_option linter.unusedVariables false
set_option linter.unusedSimpArgs false
set_option maxRecDepth 100000
set_option maxHeartbeats 16000000
section
open Go.RowKit
theorem nx_wr {p ln : Nat} (hp : p ≤ 20000) (hl : ln ≤ 20000) : IntKind.i64.wrap ((p : Int) + (ln : Int)) = (p : Int) + (ln : Int) := by rw [IntKind.wrap_i64]; omega
theorem nx_byts {w : World} {b : Nat} {l : List UInt8} (h : Txt w b l) (e c : Nat) (hc : l.length ≤ c) : Byts w b (if c = e then 0 else e) (l.drop e) := fun j hj => by
 rw [List.length_drop] at hj
 rw [if_neg (by omega), List.getElem_drop]
 exact h (e + j) (by omega)
theorem RBx.drewN {C : RC} {w : World} {pos kd : Int} {tt : ByteArray} {vl pl : Int} {m : TV} {op : Int} (hC : COk C) (h : RBx C w pos kd tt vl pl m op) (n : Nat) : RBx C (w.drewN n) pos kd tt vl pl m op := h.below hC ⟨rfl, rfl, rfl, Nat.le_refl _, fun _ _ => rfl⟩
theorem nx_good {C : RC} {w w' : World} {i : Nat} {m : TV} {op : Int} {tt : ByteArray} {vl : Int} {kd pos : Int} (hC : COk C) (hi : i ≤ C.K) (hop : 0 ≤ op ∧ op ≤ 30) (h5 : (tokT C.l i).kind ≠ 5) (hk : kd = kiI (tokT C.l i)) (hpos : pos = (endT C.l (i + 1) : Int)) (ht : kiI (tokT C.l i) = 1 ∨ kiI (tokT C.l i) = 3 → tt = (tokT C.l i).text) (hv : (tokT C.l i).kind = 2 → vl = (tokT C.l i).num)
  (hR : RBx C w' pos kd tt vl ((tokT C.l i).pl : Int) m op) (t : Tcs (fun k => k = C.P) w w') : ∀ z : PS, z.i = i → z.er = 0 → z.op = op → Go1 C m w z (.tuple #[]) (.returned (.tuple #[])) w' := by
 rintro z rfl h0 rfl
 have hal : ¬ dmS (tokT C.l) z := by
  rintro (h | h)
  ·exact h h0
  ·exact h5 h
 rw [hk, hpos] at hR
 exact .inl ⟨hal, rfl, ⟨hC, hal, hi, hop, tt, vl, hR, ht, hv⟩, t⟩
theorem nx_bad {C : RC} {w w' : World} {i : Nat} {m : TV} {op : Int} (h5 : (tokT C.l i).kind = 5) (hb : Kp C w w') : ∀ z : PS, z.i = i → z.er = 0 → z.op = op → Go1 C m w z (.tuple #[]) (flt (2, ((tokT C.l i).pl : Int))) w' := by
 rintro z rfl h0 rfl
 refine .inr ⟨.inr h5, ?_, hb⟩
 unfold fvS
 rw [if_pos h0]
theorem tl_word {c : UInt8} {q : List UInt8} {p : Nat} (hf : fstU c = true) : tokL (c :: q) p = if 20 < ((c :: q).takeWhile latU).length then (⟨5, tx [], 0, p⟩, 0) else (⟨1, tx ((c :: q).takeWhile latU), 0, p⟩, ((c :: q).takeWhile latU).length) := by
 unfold tokL
 simp only [hf, if_true]
theorem tl_num {c : UInt8} {q : List UInt8} {p : Nat} (hf : fstU c = false) (hg : digU c = true) : tokL (c :: q) p = if (c = 48 ∧ 1 < ((c :: q).takeWhile digU).length) ∨ 2147483647 < numL ((c :: q).takeWhile digU) ∨ (((c :: q).drop ((c :: q).takeWhile digU).length).head?.map fstU).getD false = true then (⟨5, tx [], 0, p⟩, 0) else (⟨2, tx [], (numL ((c :: q).takeWhile digU) : Int), p⟩, ((c :: q).takeWhile digU).length) := by
 unfold tokL
 simp only [hf, hg, if_true, Bool.false_eq_true, if_false]
theorem tl_sym {c : UInt8} {q : List UInt8} {p : Nat} (hf : fstU c = false) (hg : digU c = false) : tokL (c :: q) p = if symL (c :: q) = [] then (⟨5, tx [], 0, p⟩, 0) else (⟨3, tx (symL (c :: q)), 0, p⟩, (symL (c :: q)).length) := by
 unfold tokL
 simp only [hf, hg, Bool.false_eq_true, if_false]
theorem tw_tk {α : Type} (f : α → Bool) (r : List α) : r.take (r.takeWhile f).length = r.takeWhile f := by
 have hd := tw_len f r
 have e := tw_is f r (r.takeWhile f).length hd (fun k hk hkd => tw_in f _ k hkd hk) (fun hk => tw_at f _ hk)
 exact e.symm
theorem Byts.drewN {w : World} {b o : Nat} {r : List UInt8} (h : Byts w b o r) (n : Nat) : Byts (w.drewN n) b o r := h
set_option maxRecDepth 100000 in
set_option maxHeartbeats 8000000 in
theorem next_any {C : RC} : NxI C := by
 intro w i kd tt vl pl m op hC h hi hop
 have hel : endT C.l i ≤ C.l.length := endT_le C.l i
 obtain ⟨e, he⟩ : ∃ e, e = endT C.l i := ⟨_, rfl⟩
 have htok : tokT C.l i = (tokL (C.l.drop (e + blkN (C.l.drop e))) (e + blkN (C.l.drop e))).1 := by rw [he]; rfl
 have hend : endT C.l (i + 1) = e + blkN (C.l.drop e) + (tokL (C.l.drop (e + blkN (C.l.drop e))) (e + blkN (C.l.drop e))).2 := by rw [he]; rfl
 rw [← he] at h hel
 have hbl : blkN (C.l.drop e) ≤ C.l.length - e := by have := blkN_le (C.l.drop e); rwa [List.length_drop] at this
 have hln := hC.len
 have hcp := hC.cap
 have hsp := fun W (hW : Txt W C.bX C.l) => spanB_any C.bX (if C.cX = e then 0 else e) (C.cX - e) (C.l.drop e) W (by rw [List.length_drop]; omega) (nx_byts hW e C.cX hcp)
 have HSp : Hid (∀ W, Txt W C.bX C.l → Calls Tryz.prog 84 #[.slice (some ⟨C.bX, if C.cX = e then 0 else e, none⟩) (C.l.length - e) (C.cX - e), .func (.func 85) #[] #[]] W fun ee w' => ee = .returned (.int .i64 (blkN (C.l.drop e) : Int)) ∧ w' = W) := fun W hW => by
  have h := hsp W hW
  rw [List.length_drop] at h
  exact h
 have hcut := tcut_run_l C.bX C.l.length C.cX e hel hcp
 obtain ⟨bl, hble⟩ : ∃ bl, bl = blkN (C.l.drop e) := ⟨_, rfl⟩
 rw [← hble] at htok hend hbl HSp
 obtain ⟨p, hpe⟩ : ∃ p, p = e + bl := ⟨_, rfl⟩
 rw [← hpe] at htok hend
 have hpl : p ≤ 20000 := by omega
 have hpL : p ≤ C.l.length := by omega
 have hcut2 := tcut_run_l C.bX C.l.length C.cX p hpL hcp
 have hpt : (tokT C.l i).pl = p := by rw [htok]; exact tokL_pl _ _
 have htx := h.txt
 have hwr : IntKind.i64.wrap ((e : Int) + (bl : Int)) = (p : Int) := by rw [nx_wr (by omega) (by omega), hpe]; omega
 obtain ⟨W1, eW1⟩ : ∃ W1, W1 = w.drew := ⟨_, rfl⟩
 have hb1 : Below w.heap.size w W1 := by rw [eW1]; exact (Below.refl _ _).drew
 have hR1 := h.below hC hb1
 have HC1 := hide (HSp.out W1 hR1.txt)
 have HS := hide (show W1.cell? ⟨C.P, 0, none⟩ = some (.slice (some ⟨C.bX, 0, none⟩) C.l.length C.cX) ∧ W1.cell? ⟨C.P, 1, none⟩ = some (.int .i64 (e : Int)) from ⟨(hR1.box 0 _ rfl).1, (hR1.box 1 _ rfl).1⟩)
 have c1 := (hR1.box 1 _ rfl).1
 have f1 := (hR1.box 1 _ rfl).2
 obtain ⟨h2, t2⟩ := hR1.put hC (pos' := (p : Int)) 1 (.int .i64 (p : Int)) rfl
 obtain ⟨W2, eW2⟩ : ∃ W2, W2 = W1.setCell ⟨C.P, 1, none⟩ (.int .i64 (p : Int)) := ⟨_, rfl⟩
 rw [← eW2] at h2 t2
 obtain ⟨h3a, t3a⟩ := h2.put hC (kd' := 0) 2 (.int .i64 0) rfl
 obtain ⟨h3b, t3b⟩ := h3a.put hC (tt' := ⟨#[]⟩) 3 (.string ⟨#[]⟩) rfl
 obtain ⟨h3c, t3c⟩ := h3b.put hC (vl' := 0) 4 (.int .i64 0) rfl
 obtain ⟨h3, t3d⟩ := h3c.put hC (pl' := (p : Int)) 5 (.int .i64 (p : Int)) rfl
 obtain ⟨W3, eW3⟩ : ∃ W3, W3 = (((W2.setCell ⟨C.P, 2, none⟩ (.int .i64 0)).setCell ⟨C.P, 3, none⟩ (.string ⟨#[]⟩)).setCell ⟨C.P, 4, none⟩ (.int .i64 0)).setCell ⟨C.P, 5, none⟩ (.int .i64 (p : Int)) := ⟨_, rfl⟩
 rw [← eW3] at h3 t3d
 have hT3 : Tcs (fun k => k = C.P) w W3 := ((((hb1.tcs.trans t2).trans t3a).trans t3b).trans t3c).trans t3d
 have HR3 := hide h3
 have HT3 := hide hT3
 have d1 := (h2.box 1 _ rfl).1
 have d2 := (h2.box 2 _ rfl).1
 have g2 := (h2.box 2 _ rfl).2
 have d3 := (h2.box 3 _ rfl).1
 have g3 := (h2.box 3 _ rfl).2
 have d4 := (h2.box 4 _ rfl).1
 have g4 := (h2.box 4 _ rfl).2
 have d5 := (h2.box 5 _ rfl).1
 have g5 := (h2.box 5 _ rfl).2
 have k0 := (h3.box 0 _ rfl).1
 have k1 := (h3.box 1 _ rfl).1
 have HW1 := hide eW1
 have HW2 := hide eW2
 have HW3 := hide eW3
 have HHi := hide hi
 have HHop := hide hop
 have hB0 : C.B0 ≤ w.heap.size := by have := h.lt; have := hC.hi; omega
 have HB0 : Hid (∀ W, Tcs (fun k => k = C.P) w W → Kp C w W) := fun W ht => tcs_b0 ht (fun k hk => by rw [hk]; exact ⟨hC.hi, by omega⟩) hB0
 have HTok := hide htok
 have HEn := hide hend
 have HPt := hide hpt
 have HPe := hide hpe
 clear h hsp hbl htx eW1 hb1 hR1 h2 t2 eW2 h3a t3a h3b t3b h3c t3c h3 t3d eW3 hT3 hi hop HSp htok hend hpt he hel hble hpe hB0
 generalize (if C.cX = e then 0 else e) = o1 at *
 generalize C.l.length - e = n1 at *
 generalize C.cX - e = c1' at *
 go_enter Tryz.func58, Tryz.ntmps58
 go_upto_region 0 with fail
 refine wp_region_E 17 (fun X => X.cell? ⟨C.P, 0, none⟩ = some (.slice (some ⟨C.bX, 0, none⟩) C.l.length C.cX) ∧ X.cell? ⟨C.P, 1, none⟩ = some (.int .i64 (e : Int))) (by kernel_rfl) ?_
 rw [← HW1.out]
 refine tk 0 [1, 2, 3, 14, 17] HS.out ?_
 refine tk 1 [2, 3, 14, 17] HS.out ?_
 refine tk 2 [3, 14, 17] HS.out ?_
 refine tk 3 [14, 17] HS.out ?_
 refine tk 4 [5, 6, 7, 12, 13, 14, 17] HS.out ?_
 refine tk 5 [6, 7, 12, 13, 14, 17] HS.out ?_
 refine tk 6 [7, 12, 13, 14, 17] HS.out ?_
 refine tk 7 [12, 13, 14, 17] HS.out ?_
 refine tk 8 [9, 10, 11, 12, 13, 14, 17] HS.out ?_
 refine tk 9 [10, 11, 12, 13, 14, 17] HS.out ?_
 refine tk 10 [11, 12, 13, 14, 17] HS.out ?_
 refine tk 11 [12, 13, 14, 17] HS.out ?_
 refine tk 12 [13, 14, 17] HS.out ?_
 refine wpAnyE_one (i := 13) (by kernel_rfl) rfl (fun K hK => ?_)
 go_simp
 refine HC1.out.mono ?_
 rintro ee w9 ⟨rfl, hw⟩
 rw [hw]
 clear hw
 refine hK.out _ _ (fun _ => HS.out) ?_
 clear hK K
 try simp only [Act.put, tA, tB, tC]
 refine tk 14 [17] HS.out ?_
 refine tk 15 [16, 17] HS.out ?_
 refine tk 16 [17] HS.out ?_
 clear HS HC1
 refine wpAnyE_one (i := 17) (by kernel_rfl) rfl (fun K hK => ?_)
 go_simp
 rw [← HW2.out]
 refine hK.out _ _ (fun h => absurd rfl h) ?_
 clear hK K
 refine wpAnyE_done (by kernel_rfl) ?_ _
 clear c1 f1 hwr hcut
 go_upto_region 2 with fail
 rw [← HW3.out]
 clear d1 d2 d3 d4 d5 g2 g3 g4 g5
 go_quiet (fail)
 have hR4 := HR3.out.drewN hC nq
 have hT4 : Tcs (fun k => k = C.P) w (W3.drewN nq) := HT3.out.of_below ⟨rfl, rfl, rfl, Nat.le_refl _, fun _ _ => rfl⟩
 have hBy := nx_byts hR4.txt p C.cX hcp
 have hrl : (C.l.drop p).length = C.l.length - p := List.length_drop
 have hrc : (C.l.drop p).length ≤ C.cX - p := by omega
 have hr2 : (C.l.drop p).length ≤ 20000 := by omega
 have hbx : C.bX < (W3.drewN nq).heap.size := by have := hR4.lt; have := hC.hi; have := hC.lo; omega
 clear HR3 HT3 k0 k1 hcut2 hcp hln hpL
 generalize W3.drewN nq = w4 at *
 rw [← hrl]
 generalize (if C.cX = p then 0 else p) = o2 at *
 generalize C.cX - p = c2 at *
 have HTk := hide (show tokT C.l i = (tokL (C.l.drop p) p).1 from HTok.out)
 have HEd := hide (show endT C.l (i + 1) = p + (tokL (C.l.drop p) p).2 from HEn.out)
 generalize C.l.drop p = r at *
 clear HTok HEn hrl
 have HGd : Hid (∀ W' kd tt vl pos, (tokT C.l i).kind ≠ 5 → kd = kiI (tokT C.l i) → pos = (endT C.l (i + 1) : Int) → (kiI (tokT C.l i) = 1 ∨ kiI (tokT C.l i) = 3 → tt = (tokT C.l i).text) → ((tokT C.l i).kind = 2 → vl = (tokT C.l i).num) → RBx C W' pos kd tt vl (p : Int) m op → Tcs (fun k => k = C.P) w W' → ∀ z : PS, z.i = i → z.er = 0 → z.op = op → Go1 C m w z (.tuple #[]) (.returned (.tuple #[])) W') := fun W' kd tt vl pos h5 hk hp ht hv hR t => nx_good hC HHi.out HHop.out h5 hk hp ht hv (by rw [HPt.out]; exact hR) t
 have HBd : Hid ((tokT C.l i).kind = 5 → ∀ W', Below w4.heap.size w4 W' → ∀ z : PS, z.i = i → z.er = 0 → z.op = op → Go1 C m w z (.tuple #[]) (flt (2, (p : Int))) W') := fun h5 W' hb => by
  have h := nx_bad (op := op) (m := m) h5 ((HB0.out _ hT4).trans (Kp.of hb))
  rw [HPt.out] at h
  exact h
 have HT4 := hide hT4
 clear HHi HHop HPt HB0 hT4
 cases r with
 | nil =>
  have hk : tokT C.l i = ⟨4, tx [], 0, p⟩ := HTk.out
  have HF := hide (HGd.out w4 0 ⟨#[]⟩ 0 (p : Int) (by rw [hk]; show (4 : Int) ≠ 5; decide) (by rw [hk]; rfl) (by rw [HEd.out]; rfl) (by rw [hk]; intro h; simp [kiI] at h) (by rw [hk]; intro h; simp at h) hR4 HT4.out)
  clear hk hR4 hBy HTk HEd HGd HBd HT4
  go_wp2_with fail
  exact bodyPost_ret (v := .tuple #[]) (by simp [results, Tryz.results58, go_sem]) rfl HF.out
 | cons c q =>
  have hc0 : w4.cell? ⟨C.bX, o2, none⟩ = some (.int .u8 (cI c)) := hBy 0 (by simp)
  have hpos : (0 : Int) < (((c :: q).length : Nat) : Int) := by rw [List.length_cons]; omega
  have hne : ((((c :: q).length : Nat) : Int) == 0) = false := by simp only [beq_eq_false_iff_ne]; omega
  cases hf : fstU c with
  | true =>
   have hs1 : smallB (cI c) = true := hf
   obtain ⟨ln, eln⟩ : ∃ ln, ln = ((c :: q).takeWhile latU).length := ⟨_, rfl⟩
   have hll : ln ≤ (c :: q).length := by rw [eln]; exact tw_len _ _
   have HNs := hide (nspanL_any C.bX o2 c2 (c :: q) w4 (by simp) (by omega) hf hBy)
   have hcut := tcut_h C.bX o2 (c :: q).length c2 ln hll hrc
   have hcv := bconv hBy c2 ln hll
   rw [eln, tw_tk] at hcv
   rw [← eln] at HNs hcv
   obtain ⟨ok, hok⟩ : ∃ ok : Prop, ok ↔ ln ≤ 20 := ⟨_, Iff.rfl⟩
   obtain ⟨kx, ekx⟩ : ∃ kx : Int, kx = if resB (tx ((c :: q).takeWhile latU)) = true then 3 else 1 := ⟨_, rfl⟩
   have hsz : (tx ((c :: q).takeWhile latU)).size = ln := by rw [tx_size, eln]
   have HRw := hide (word_i hC hR4 ((c :: q).takeWhile latU) (by omega) ok (by rw [hok, eln]) kx ekx)
   have htk := HTk.out
   have hed := HEd.out
   rw [tl_word hf, ← eln] at htk hed
   have HGood : Hid (ok → ∀ W', RBx C W' ((p : Int) + (ln : Int)) (kx) (tx ((c :: q).takeWhile latU)) (0) (p : Int) m op → Tcs (fun k => k = C.P) w W' → ∀ z : PS, z.i = i → z.er = 0 → z.op = op → Go1 C m w z (.tuple #[]) (.returned (.tuple #[])) W') := fun h W' hR t => by
    have h20 : ¬ 20 < ln := by have := hok.1 h; omega
    rw [if_neg h20] at htk hed
    have hki : kx = kiI (tokT C.l i) := by rw [htk, ekx]; rfl
    exact HGd.out W' kx _ 0 _ (by rw [htk]; show (1 : Int) ≠ 5; decide) hki (by rw [hed]; push_cast; rfl) (fun _ => by rw [htk]) (fun h => by rw [htk] at h; cases h) hR t
   have HBad : Hid (¬ ok → ∀ W', Below w4.heap.size w4 W' → ∀ z : PS, z.i = i → z.er = 0 → z.op = op → Go1 C m w z (.tuple #[]) (flt (2, (p : Int))) W') := fun h W' hb => by
    have h20 : 20 < ln := by
     by_cases e : ln ≤ 20
     ·exact absurd (hok.2 e) h
     ·omega
    rw [if_pos h20] at htk
    exact HBd.out (by rw [htk]) W' hb
   have HT4' := HT4.out
   have hln2 : ln ≤ 20000 := by omega
   clear HGd HBd HTk HEd htk hed hok ekx eln hf HT4 hR4 hBy
   generalize tx ((c :: q).takeWhile latU) = ts at *
   generalize hrr : c :: q = r at *
   generalize cI c = cc at *
   clear hrr
   go_wp2_with (go_at_call 86; refine (small_any _ _).mono ?_; rintro e w' ⟨rfl, rfl⟩; rw [hs1])
   refine HNs.out.mono ?_
   rintro ee w9 ⟨rfl, hw⟩
   rw [hw]
   clear hw
   go_wp2_with fail
   refine (HRw.out).mono (fun e w5 hg => ?_)
   rcases hg.symm with ⟨hno, rfl, hb4⟩ | ⟨hyes, rfl, hR4, t4⟩
   ·have HF := hide (HBad.out hno _ hb4)
    unfold flt at *
    go_wp2_with fail
    exact ⟨rfl, HF.out⟩
   replace t4 := HT4'.trans t4
   clear HT4'
   have HEnd := hide (HGood.out hyes)
   clear HGood HBad
   have hp1 := (hR4.box 1 _ rfl).1
   have hf1 := (hR4.box 1 _ rfl).2
   have hp3 := (hR4.box 3 _ rfl).1
   obtain ⟨W5, eW5⟩ : ∃ W5, W5 = w5.drew := ⟨_, rfl⟩
   have hb5 : Below w5.heap.size w5 W5 := by rw [eW5]; exact (Below.refl _ _).drew
   have hR5 := hR4.below hC hb5
   have hwr : IntKind.i64.wrap ((p : Int) + (ln : Int)) = (p : Int) + (ln : Int) := nx_wr hpl (hln2)
   have HS := hide (show W5.cell? ⟨C.P, 1, none⟩ = some (.int .i64 (p : Int)) ∧ W5.cell? ⟨C.P, 3, none⟩ = some (.string ts) from ⟨(hR5.box 1 _ rfl).1, (hR5.box 3 _ rfl).1⟩)
   have q1 := (hR5.box 1 _ rfl).1
   have q2 := (hR5.box 1 _ rfl).2
   obtain ⟨h6, t6⟩ := hR5.put hC (pos' := (p : Int) + (ln : Int)) 1 (.int .i64 ((p : Int) + (ln : Int))) rfl
   have HF := hide (HEnd.out _ h6 (t4.trans (hb5.tcs.trans t6)))
   have HW5 := hide eW5
   clear hR4 hR5 h6 t6 hb5 eW5 t4 hp1 hf1 hp3
   go_upto_region 9 with fail
   refine wp_region_E 13 (fun X => X.cell? ⟨C.P, 1, none⟩ = some (.int .i64 (p : Int)) ∧ X.cell? ⟨C.P, 3, none⟩ = some (.string ts)) (by kernel_rfl) ?_
   rw [← HW5.out]
   refine tk 0 [1, 2, 3, 10, 13] HS.out ?_
   refine tk 1 [2, 3, 10, 13] HS.out ?_
   refine tk 2 [3, 10, 13] HS.out ?_
   refine tk 3 [10, 13] HS.out ?_
   refine tk 4 [5, 6, 7, 8, 9, 10, 13] HS.out ?_
   refine tk 5 [6, 7, 8, 9, 10, 13] HS.out ?_
   refine tk 6 [7, 8, 9, 10, 13] HS.out ?_
   refine tk 7 [8, 9, 10, 13] HS.out ?_
   refine tk 8 [9, 10, 13] HS.out ?_
   refine tk 9 [10, 13] HS.out ?_
   refine tk 10 [13] HS.out ?_
   refine tk 11 [12, 13] HS.out ?_
   refine tk 12 [13] HS.out ?_
   clear HS
   refine wpAnyE_one (i := 13) (by kernel_rfl) rfl (fun K hK => ?_)
   go_simp
   refine hK.out _ _ (fun h => absurd rfl h) ?_
   clear hK K
   refine wpAnyE_done (by kernel_rfl) ?_ _
   go_wp2_with fail
   exact bodyPost_end (v := .tuple #[]) (by simp [results, Tryz.results58, go_sem]) rfl HF.out
  | false =>
   cases hg : digU c with
   | true =>
    have hs1 : smallB (cI c) = false := hf
    have hs2 : digitB (cI c) = true := hg
    obtain ⟨ln, eln⟩ : ∃ ln, ln = ((c :: q).takeWhile digU).length := ⟨_, rfl⟩
    have hll : ln ≤ (c :: q).length := by rw [eln]; exact tw_len _ _
    obtain ⟨ok, hok⟩ : ∃ ok : Prop, ok ↔ ¬ badN (c :: q) c ((c :: q).takeWhile digU).length := ⟨_, Iff.rfl⟩
    have hsz : (tx ((c :: q).takeWhile digU)).size = ln := by rw [tx_size, eln]
    have HRw := hide (numb_i hC hR4 C.bX o2 c2 hbx c q (by omega) hrc hBy hg ok hok)
    have htk := HTk.out
    have hed := HEd.out
    rw [tl_num hf hg] at htk hed
    have hbn : badN (c :: q) c ((c :: q).takeWhile digU).length ↔ ((c = 48 ∧ 1 < ((c :: q).takeWhile digU).length) ∨ 2147483647 < numL ((c :: q).takeWhile digU) ∨ (((c :: q).drop ((c :: q).takeWhile digU).length).head?.map fstU).getD false = true) := by
     unfold badN
     rw [tw_tk]
    have HGood : Hid (ok → ∀ W', RBx C W' ((p : Int) + (ln : Int)) (2) (tx ((c :: q).takeWhile digU)) ((numL ((c :: q).takeWhile digU) : Int)) (p : Int) m op → Tcs (fun k => k = C.P) w W' → ∀ z : PS, z.i = i → z.er = 0 → z.op = op → Go1 C m w z (.tuple #[]) (.returned (.tuple #[])) W') := fun h W' hR t => by
     have hb := hok.1 h
     rw [hbn] at hb
     rw [if_neg hb] at htk hed
     exact HGd.out W' 2 _ _ _ (by rw [htk]; show (2 : Int) ≠ 5; decide) (by rw [htk]; rfl) (by rw [hed, eln]; push_cast; rfl) (fun h => by rw [htk] at h; simp [kiI] at h) (fun _ => by rw [htk]) hR t
    have HBad : Hid (¬ ok → ∀ W', Below w4.heap.size w4 W' → ∀ z : PS, z.i = i → z.er = 0 → z.op = op → Go1 C m w z (.tuple #[]) (flt (2, (p : Int))) W') := fun h W' hb => by
     have hb' : badN (c :: q) c ((c :: q).takeWhile digU).length := by
      by_cases e : badN (c :: q) c ((c :: q).takeWhile digU).length
      ·exact e
      ·exact absurd (hok.2 e) h
     rw [hbn] at hb'
     rw [if_pos hb'] at htk
     exact HBd.out (by rw [htk]) W' hb
    have HT4' := HT4.out
    have hln2 : ln ≤ 20000 := by omega
    clear HGd HBd HTk HEd htk hed hok eln hf HT4 hR4 hBy hbn hg
    generalize tx ((c :: q).takeWhile digU) = ts at *
    generalize (numL ((c :: q).takeWhile digU) : Int) = nv at *
    generalize hrr : c :: q = r at *
    generalize cI c = cc at *
    clear hrr
    go_wp2_with (first | (go_at_call 86; refine (small_any _ _).mono ?_; rintro e w' ⟨rfl, rfl⟩; rw [hs1]) | (go_at_call 89; refine (digit_any _ _).mono ?_; rintro e w' ⟨rfl, rfl⟩; rw [hs2]))
    refine (HRw.out).mono (fun e w5 hg => ?_)
    rcases hg.symm with ⟨hno, rfl, hb4⟩ | ⟨hyes, rfl, hR4, t4⟩
    ·have HF := hide (HBad.out hno _ hb4)
     unfold flt at *
     go_wp2_with fail
     exact ⟨rfl, HF.out⟩
    replace t4 := HT4'.trans t4
    clear HT4'
    have HEnd := hide (HGood.out hyes)
    clear HGood HBad
    have hp1 := (hR4.box 1 _ rfl).1
    have hf1 := (hR4.box 1 _ rfl).2
    have hp3 := (hR4.box 3 _ rfl).1
    obtain ⟨W5, eW5⟩ : ∃ W5, W5 = w5.drew := ⟨_, rfl⟩
    have hb5 : Below w5.heap.size w5 W5 := by rw [eW5]; exact (Below.refl _ _).drew
    have hR5 := hR4.below hC hb5
    have hwr : IntKind.i64.wrap ((p : Int) + (ln : Int)) = (p : Int) + (ln : Int) := nx_wr hpl (hln2)
    have HS := hide (show W5.cell? ⟨C.P, 1, none⟩ = some (.int .i64 (p : Int)) ∧ W5.cell? ⟨C.P, 3, none⟩ = some (.string ts) from ⟨(hR5.box 1 _ rfl).1, (hR5.box 3 _ rfl).1⟩)
    have q1 := (hR5.box 1 _ rfl).1
    have q2 := (hR5.box 1 _ rfl).2
    obtain ⟨h6, t6⟩ := hR5.put hC (pos' := (p : Int) + (ln : Int)) 1 (.int .i64 ((p : Int) + (ln : Int))) rfl
    have HF := hide (HEnd.out _ h6 (t4.trans (hb5.tcs.trans t6)))
    have HW5 := hide eW5
    clear hR4 hR5 h6 t6 hb5 eW5 t4 hp1 hf1 hp3
    go_upto_region 9 with fail
    refine wp_region_E 13 (fun X => X.cell? ⟨C.P, 1, none⟩ = some (.int .i64 (p : Int)) ∧ X.cell? ⟨C.P, 3, none⟩ = some (.string ts)) (by kernel_rfl) ?_
    rw [← HW5.out]
    refine tk 0 [1, 2, 3, 10, 13] HS.out ?_
    refine tk 1 [2, 3, 10, 13] HS.out ?_
    refine tk 2 [3, 10, 13] HS.out ?_
    refine tk 3 [10, 13] HS.out ?_
    refine tk 4 [5, 6, 7, 8, 9, 10, 13] HS.out ?_
    refine tk 5 [6, 7, 8, 9, 10, 13] HS.out ?_
    refine tk 6 [7, 8, 9, 10, 13] HS.out ?_
    refine tk 7 [8, 9, 10, 13] HS.out ?_
    refine tk 8 [9, 10, 13] HS.out ?_
    refine tk 9 [10, 13] HS.out ?_
    refine tk 10 [13] HS.out ?_
    refine tk 11 [12, 13] HS.out ?_
    refine tk 12 [13] HS.out ?_
    clear HS
    refine wpAnyE_one (i := 13) (by kernel_rfl) rfl (fun K hK => ?_)
    go_simp
    refine hK.out _ _ (fun h => absurd rfl h) ?_
    clear hK K
    refine wpAnyE_done (by kernel_rfl) ?_ _
    go_wp2_with fail
    exact bodyPost_end (v := .tuple #[]) (by simp [results, Tryz.results58, go_sem]) rfl HF.out
   | false =>
    have hs1 : smallB (cI c) = false := hf
    have hs2 : digitB (cI c) = false := hg
    obtain ⟨ln, eln⟩ : ∃ ln, ln = (symL (c :: q)).length := ⟨_, rfl⟩
    have hll : ln ≤ 2 := by rw [eln]; exact (symL_len _).2
    obtain ⟨ok, hok⟩ : ∃ ok : Prop, ok ↔ symL (c :: q) ≠ [] := ⟨_, Iff.rfl⟩
    have hsz : (tx (symL (c :: q))).size = ln := by rw [tx_size, eln]
    have HRw := hide (symb_i hC hR4 C.bX o2 c2 (c :: q) (by simp) (by omega) hrc hBy ok hok)
    have htk := HTk.out
    have hed := HEd.out
    rw [tl_sym hf hg] at htk hed
    have HGood : Hid (ok → ∀ W', RBx C W' ((p : Int) + (ln : Int)) (3) (tx (symL (c :: q))) (0) (p : Int) m op → Tcs (fun k => k = C.P) w W' → ∀ z : PS, z.i = i → z.er = 0 → z.op = op → Go1 C m w z (.tuple #[]) (.returned (.tuple #[])) W') := fun h W' hR t => by
     rw [if_neg (hok.1 h)] at htk hed
     exact HGd.out W' 3 _ _ _ (by rw [htk]; show (3 : Int) ≠ 5; decide) (by rw [htk]; rfl) (by rw [hed, eln]; push_cast; rfl) (fun _ => by rw [htk]) (fun h => by rw [htk] at h; cases h) hR t
    have HBad : Hid (¬ ok → ∀ W', Below w4.heap.size w4 W' → ∀ z : PS, z.i = i → z.er = 0 → z.op = op → Go1 C m w z (.tuple #[]) (flt (2, (p : Int))) W') := fun h W' hb => by
     have hb' : symL (c :: q) = [] := by
      by_cases e : symL (c :: q) = []
      ·exact e
      ·exact absurd (hok.2 e) h
     rw [if_pos hb'] at htk
     exact HBd.out (by rw [htk]) W' hb
    have HT4' := HT4.out
    have hln2 : ln ≤ 20000 := by omega
    clear HGd HBd HTk HEd htk hed hok eln hf HT4 hR4 hBy hg
    generalize tx (symL (c :: q)) = ts at *
    generalize hrr : c :: q = r at *
    generalize cI c = cc at *
    clear hrr
    go_wp2_with (first | (go_at_call 86; refine (small_any _ _).mono ?_; rintro e w' ⟨rfl, rfl⟩; rw [hs1]) | (go_at_call 89; refine (digit_any _ _).mono ?_; rintro e w' ⟨rfl, rfl⟩; rw [hs2]))
    refine (HRw.out).mono (fun e w5 hg => ?_)
    rcases hg.symm with ⟨hno, rfl, hb4⟩ | ⟨hyes, rfl, hR4, t4⟩
    ·have HF := hide (HBad.out hno _ hb4)
     unfold flt at *
     go_wp2_with fail
     exact ⟨rfl, HF.out⟩
    replace t4 := HT4'.trans t4
    clear HT4'
    have HEnd := hide (HGood.out hyes)
    clear HGood HBad
    have hp1 := (hR4.box 1 _ rfl).1
    have hf1 := (hR4.box 1 _ rfl).2
    have hp3 := (hR4.box 3 _ rfl).1
    obtain ⟨W5, eW5⟩ : ∃ W5, W5 = w5.drew := ⟨_, rfl⟩
    have hb5 : Below w5.heap.size w5 W5 := by rw [eW5]; exact (Below.refl _ _).drew
    have hR5 := hR4.below hC hb5
    have hwr : IntKind.i64.wrap ((p : Int) + (ln : Int)) = (p : Int) + (ln : Int) := nx_wr hpl (hln2)
    have HS := hide (show W5.cell? ⟨C.P, 1, none⟩ = some (.int .i64 (p : Int)) ∧ W5.cell? ⟨C.P, 3, none⟩ = some (.string ts) from ⟨(hR5.box 1 _ rfl).1, (hR5.box 3 _ rfl).1⟩)
    have q1 := (hR5.box 1 _ rfl).1
    have q2 := (hR5.box 1 _ rfl).2
    obtain ⟨h6, t6⟩ := hR5.put hC (pos' := (p : Int) + (ln : Int)) 1 (.int .i64 ((p : Int) + (ln : Int))) rfl
    have HF := hide (HEnd.out _ h6 (t4.trans (hb5.tcs.trans t6)))
    have HW5 := hide eW5
    clear hR4 hR5 h6 t6 hb5 eW5 t4 hp1 hf1 hp3
    go_upto_region 9 with fail
    refine wp_region_E 13 (fun X => X.cell? ⟨C.P, 1, none⟩ = some (.int .i64 (p : Int)) ∧ X.cell? ⟨C.P, 3, none⟩ = some (.string ts)) (by kernel_rfl) ?_
    rw [← HW5.out]
    refine tk 0 [1, 2, 3, 10, 13] HS.out ?_
    refine tk 1 [2, 3, 10, 13] HS.out ?_
    refine tk 2 [3, 10, 13] HS.out ?_
    refine tk 3 [10, 13] HS.out ?_
    refine tk 4 [5, 6, 7, 8, 9, 10, 13] HS.out ?_
    refine tk 5 [6, 7, 8, 9, 10, 13] HS.out ?_
    refine tk 6 [7, 8, 9, 10, 13] HS.out ?_
    refine tk 7 [8, 9, 10, 13] HS.out ?_
    refine tk 8 [9, 10, 13] HS.out ?_
    refine tk 9 [10, 13] HS.out ?_
    refine tk 10 [13] HS.out ?_
    refine tk 11 [12, 13] HS.out ?_
    refine tk 12 [13] HS.out ?_
    clear HS
    refine wpAnyE_one (i := 13) (by kernel_rfl) rfl (fun K hK => ?_)
    go_simp
    refine hK.out _ _ (fun h => absurd rfl h) ?_
    clear hK K
    refine wpAnyE_done (by kernel_rfl) ?_ _
    go_wp2_with fail
    exact bodyPost_end (v := .tuple #[]) (by simp [results, Tryz.results58, go_sem]) rfl HF.out
end
end Go.Proofs.YtlamjfhhefcohaaGreatDoor
