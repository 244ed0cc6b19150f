import Derived.Test.YtlamjfhhefcohaaGreatDoorM47
import Derived.Deep.LoopGhost
namespace Go.Proofs.YtlamjfhhefcohaaGreatDoor
set_option linter.unusedVariables false
set_option linter.unusedSimpArgs false
set_option maxRecDepth 100000
set_option maxHeartbeats 16000000
section
open Go.RowKit
set_option maxRecDepth 100000 in
set_option maxHeartbeats 4000000 in
theorem im_name {C : RC} (HN : NxI C) {n : Nat} (hNm : NmI C n) {w : World} {m : TV} {B : Nat} {s : PS} {v : Value} {R : List SV} {r : List St} {s' : PS} (hS : RSt C m w s) (hr : StRow B w v R) (hPB : C.P + 1 < B) (hBw : B ≤ w.heap.size) (hl : R.length + szS r ≤ 1000000) (hi : kiI (tokT C.l s.i) = 1) (hcs : (isS (tokT C.l) [91] (naS (tokT C.l) s).2 = true ∧ ∃ a s1, Pa (tokT C.l) n (.pr [91] [93]) (naS (tokT C.l) s).2 (.n a) s1 ∧ Pa (tokT C.l) n (.sg ⟨3, (naS (tokT C.l) s).1, a, [], 0, 0⟩) s1 (.s r) s') ∨
   (isS (tokT C.l) [91] (naS (tokT C.l) s).2 = false ∧ isS (tokT C.l) [40] (naS (tokT C.l) s).2 = true ∧ ∃ a s1, Pa (tokT C.l) n (.ar (naS (tokT C.l) s).1) (naS (tokT C.l) s).2 (.n a) s1 ∧ r = [⟨8, tx [], a, [], 0, 0⟩] ∧ s' = taS (tokT C.l) [59] s1) ∨
   (isS (tokT C.l) [91] (naS (tokT C.l) s).2 = false ∧ isS (tokT C.l) [40] (naS (tokT C.l) s).2 = false ∧ Pa (tokT C.l) n (.sg (st0 2 (naS (tokT C.l) s).1)) (naS (tokT C.l) s).2 (.s r) s')) (hdn : Dm (tokT C.l) (naS (tokT C.l) s).2 s') : Calls Tryz.prog 158 #[.pointer (some ⟨C.P, 0, none⟩), v] w (StI C m w B v R r s') := by
 have hS0 := SB.start hS hr hPB hBw
 have p2 := hS.cki
 rw [hi] at p2
 have HNa := hide (nameI_any HN hS)
 have HNm : Hid (∀ W, RSt C m W (naS (tokT C.l) s).2 → Calls Tryz.prog 177 #[.pointer (some ⟨C.P, 0, none⟩), .string (naS (tokT C.l) s).1] W (NmA C m W r s')) := fun W h => hNm W m _ _ r s' hcs h (by omega)
 have HDm := hide hdn
 clear hNm hcs HN hS hr hPB hBw hdn
 generalize naS (tokT C.l) s = nz at *
 obtain ⟨nm, z⟩ := nz
 dsimp only at *
 go_enter Tryz.func158, Tryz.ntmps158
 go_wp2_with fail
 refine (HNa.out).mono (fun e w2 hg => ?_)
 rcases hg.symm with hd | ⟨-, rfl, z2, t2⟩
 ·have HF : Hid (StI C m w B v R r s' e w2) := hS0.die hd (HDm.out)
  obtain ⟨-, rfl, -⟩ := hd
  unfold flt at *
  go_wp2_with fail
  exact ⟨rfl, HF.out⟩
 have hS2 := hS0.go z2 t2
 clear z2 t2
 have HC := hide (HNm.out w2 hS2.st)
 have ho := hS2.old
 have hBs := hS2.le
 go_wp2_with fail
 refine (HC.out).mono (fun e w3 hg => ?_)
 rcases hg.symm with hd | ⟨-, q, rfl, rfl, he, hf, hnd, z3, t3⟩
 ·have HF : Hid (StI C m w B v R r s' e w3) := hS2.die hd (Dm.refl _)
  obtain ⟨-, rfl, -⟩ := hd
  unfold flt at *
  go_wp2_with fail
  exact ⟨rfl, HF.out⟩
 have hS3 := hS2.go z3 t3
 obtain ⟨W4, eW4⟩ : ∃ W4, W4 = w3.alloc (.cells #[.int .i64 q.s.kind, .string q.s.name, q.ve, q.vf, .int .i64 q.s.thn, .int .i64 q.s.els] 46) := ⟨_, rfl⟩
 obtain ⟨B4, eB4⟩ : ∃ B4, B4 = w3.heap.size := ⟨_, rfl⟩
 obtain ⟨u4, w4, r4, f4⟩ := hS3.app (w1 := w2) q he hf hnd ho.1 ho.2 hBs eW4 eB4 (by omega)
 have o1 := he.cellO
 have o2 := hf.cellO
 have HF := hide (f4.fin (a := [q.s]) rfl)
 have HW4 := hide eW4
 have HB4 := hide eB4
 have HR4 := hide r4
 clear eW4 eB4 r4 f4 he hf hnd z3 t3 hS3 hS2
 generalize q.ve = ve at *
 generalize q.vf = vf at *
 generalize q.s.kind = qk at *
 generalize q.s.name = qn at *
 generalize q.s.thn = qt at *
 generalize q.s.els = qe at *
 go_wp2_with (at_builtin; rw [← HW4.out, ← HB4.out]; refine wpList_appG rfl _ _ _ rfl _ _ u4 w4 rfl rfl HR4.out ?_)
 go_ret
 exact HF.out
end
section
open Go.RowKit
set_option maxRecDepth 100000 in
set_option maxHeartbeats 4000000 in
theorem im_none {C : RC} (HN : NxI C) {n : Nat} {w : World} {m : TV} {B : Nat} {s : PS} {v : Value} {R : List SV} {r : List St} {s' : PS} (hS : RSt C m w s) (hr : StRow B w v R) (hPB : C.P + 1 < B) (hBw : B ≤ w.heap.size) (hi : kiI (tokT C.l s.i) ≠ 1) (hq : SeS (tokT C.l) s) (hdn : Dm (tokT C.l) (naS (tokT C.l) s).2 s') : Calls Tryz.prog 158 #[.pointer (some ⟨C.P, 0, none⟩), v] w (StI C m w B v R r s') := by
 have hS0 := SB.start hS hr hPB hBw
 have HSk : Hid (∀ x, fixB x = true → Calls Tryz.prog 126 #[.pointer (some ⟨C.P, 0, none⟩), .string (tx x)] w fun e w' => (isS (tokT C.l) x s = false ∧ e = .returned (.bool false) ∧ w' = w) ∨ (isS (tokT C.l) x s = true ∧ Go1 C m w s.ad (.bool true) e w')) := fun x hx => skip_any HN hS x hx
 have HEx : Hid (∀ W y x, fixB x = true → RSt C m W y → Calls Tryz.prog 92 #[.pointer (some ⟨C.P, 0, none⟩), .string (tx x)] W (Go1 C m W (taS (tokT C.l) x y) (.tuple #[]))) := fun W y x hx h => expect_any HN h x hx
 have p2 := hS.cki
 obtain ⟨h1, h2, h3, h4, h5⟩ := hq
 have hnm := nm_is (l := C.l) (s := s) (al_er hS.al)
 rw [decide_eq_false hi] at hnm
 obtain ⟨d1, d2⟩ := na_no hS.al hnm
 obtain ⟨d3, d4⟩ := hdn d1
 have HF : Hid (StI C m w B v R r s' (flt (3, ((tokT C.l s.i).pl : Int))) w) := .inr ⟨d3, by rw [d4, d2], Kp.refl _ _⟩
 have HFa := hide (failS_any hS 3)
 have e1 : (kiI (tokT C.l s.i) == 1) = false := by simpa using hi
 clear hnm d1 d2 d3 d4 hdn HN hS hr hPB hBw hS0 HEx hi
 generalize ((tokT C.l s.i).pl : Int) = pl at *
 generalize kiI (tokT C.l s.i) = ki at *
 go_enter Tryz.func158, Tryz.ntmps158
 go_wp2_with fail
 refine (HSk.out [105, 110, 116] (by decide)).mono (fun e w9 hg => ?_)
 rcases hg.symm with ⟨hbad, -⟩ | ⟨-, rfl, hw⟩
 ·rw [h1] at hbad; cases hbad
 rw [hw]
 clear hw
 go_wp2_with fail
 refine (HSk.out [105, 102] (by decide)).mono (fun e w9 hg => ?_)
 rcases hg.symm with ⟨hbad, -⟩ | ⟨-, rfl, hw⟩
 ·rw [h2] at hbad; cases hbad
 rw [hw]
 clear hw
 go_wp2_with fail
 refine (HSk.out [119, 104, 105, 108, 101] (by decide)).mono (fun e w9 hg => ?_)
 rcases hg.symm with ⟨hbad, -⟩ | ⟨-, rfl, hw⟩
 ·rw [h3] at hbad; cases hbad
 rw [hw]
 clear hw
 go_wp2_with fail
 refine (HSk.out [114, 101, 116, 117, 114, 110] (by decide)).mono (fun e w9 hg => ?_)
 rcases hg.symm with ⟨hbad, -⟩ | ⟨-, rfl, hw⟩
 ·rw [h4] at hbad; cases hbad
 rw [hw]
 clear hw
 go_wp2_with fail
 refine (HSk.out [111, 117, 116] (by decide)).mono (fun e w9 hg => ?_)
 rcases hg.symm with ⟨hbad, -⟩ | ⟨-, rfl, hw⟩
 ·rw [h5] at hbad; cases hbad
 rw [hw]
 clear hw
 go_wp2_with fail
 refine HFa.out.mono ?_
 rintro e w9 ⟨rfl, hw⟩
 rw [hw]
 clear hw
 unfold flt at *
 go_wp2_with fail
 exact ⟨rfl, HF.out⟩
end
section
open Go.RowKit
set_option maxRecDepth 100000 in
set_option maxHeartbeats 4000000 in
theorem bkI_step {C : RC} (HN : NxI C) {n : Nat} (hSm : SmI C n) : BkI C (n + 1) := by
 intro w m B s v R a s' hP hS hr hPB hBw hl
 obtain ⟨s1, hp, rfl⟩ : ∃ s1, Pa (tokT C.l) n (.bs []) (opS (tokT C.l) [123] s) (.s a) s1 ∧ s' = clS (tokT C.l) [125] s1 := by
  cases hP using Pa_i with
  | blk n s a s1 h1 => exact ⟨s1, h1, rfl⟩
 have hS0 := SB.start hS hr hPB hBw
 have HEn := hide (enter_any HN hS [123] (by decide))
 have HDm : Hid (Dm (tokT C.l) (opS (tokT C.l) [123] s) (clS (tokT C.l) [125] s1)) := hp.dm.trans (dm_cl _ _)
 have HOp : Hid (1 ≤ s1.op) := by show 1 ≤ s1.op; rw [hp.op, on_op]; have := hS.op; omega
 have HSe : Hid (∀ W y, RSt C m W y → Calls Tryz.prog 94 #[.pointer (some ⟨C.P, 0, none⟩), .string (tx [125])] W fun e w' => e = .returned (.bool (isS (tokT C.l) [125] y)) ∧ w' = W) := fun W y h => sees_any h [125] (by decide)
 have HLe : Hid (∀ W y, RSt C m W y → 1 ≤ y.op → Calls Tryz.prog 130 #[.pointer (some ⟨C.P, 0, none⟩), .string (tx [125])] W (Go1 C m W (clS (tokT C.l) [125] y) (.tuple #[]))) := fun W y h ho => leave_any HN h ho [125] (by decide)
 have HSm : Hid (∀ W y u Q b y1, Pa (tokT C.l) n .st y (.s b) y1 → SB C m B w v W u Q y → Q.length + szS b ≤ 1000000 → Calls Tryz.prog 158 #[.pointer (some ⟨C.P, 0, none⟩), u] W (StI C m W B u Q b y1)) := fun W y u Q b y1 hp h hl => hSm W m B y u Q b y1 hp h.st h.row h.pb h.le hl
 have HLn := hide hl
 have HPp := hide hp
 generalize opS (tokT C.l) [123] s = z at *
 clear hS hr hPB hBw hP hp hSm HN hl
 go_enter Tryz.func131, Tryz.ntmps131
 go_wp2_with fail
 refine (HEn.out).mono (fun e w1 hg => ?_)
 rcases hg.symm with hd | ⟨-, rfl, z2, t2⟩
 ·have HF : Hid (StI C m w B v R a (clS (tokT C.l) [125] s1) e w1) := hS0.die hd (HDm.out)
  obtain ⟨-, rfl, -⟩ := hd
  unfold flt at *
  go_wp2_with fail
  exact ⟨rfl, HF.out⟩
 have hS1 := hS0.go z2 t2
 clear z2 t2
 go_wp2_with fail
 have HS1 : Hid (SB C m B w v w1 v (R ++ []) z) := by rw [List.append_nil]; exact hS1
 clear hS1 hS0 HEn HDm
 go_loopg [1] n (fun gk u wr => ∃ (R2 : List SV) (y : PS), gk ≤ n ∧ Pa (tokT C.l) gk (.bs (R2.map SV.s)) y (.s a) s1 ∧ SB C m B w v wr u (R ++ R2) y)
 case atStart => exact ⟨[], z, Nat.le_refl _, HPp.out, HS1.out⟩
 case round =>
  clear HS1 HPp
  obtain ⟨R2, y, hgk, hp, hS⟩ := hrel
  have HI := hide (HSe.out _ _ hS.st)
  have HS := hide hS
  rcases bs_inv hp with ⟨h0, -⟩ | ⟨-, hi, ha, rfl⟩ | ⟨-, hi, k, b, y1, rfl, hpe, hpn⟩
  ·exact absurd (al_er hS.st.al) h0
  ·rw [hi] at HI
   have HL1 := hide (HLe.out _ _ hS.st HOp.out)
   have HA := hide ha
   clear hp hgk hS hi ha
   go_wp2_with fail
   refine HI.out.mono ?_
   rintro e w9 ⟨rfl, hw⟩
   rw [hw]
   clear hw HI
   have hS := HS.out
   go_wp2_with fail
   refine (HL1.out).mono (fun e w5 hg => ?_)
   rcases hg.symm with hd | ⟨-, rfl, z2, t2⟩
   ·have HF : Hid (StI C m w B v R a (clS (tokT C.l) [125] s1) e w5) := hS.die hd (Dm.refl _)
    obtain ⟨-, rfl, -⟩ := hd
    unfold flt at *
    go_wp2_with fail
    exact ⟨rfl, HF.out⟩
   have hS5 := hS.go z2 t2
   clear z2 t2
   go_wp2_with fail
   have HF := hide (hS5.fin HA.out.symm)
   clear hS5 hS
   go_ret
   exact HF.out
  ·rw [hi] at HI
   have hln : (R ++ R2).length + szS b ≤ 1000000 := by
    have h1 := hpn.acc
    simp only [PT.acc, PR.sz, szS_app] at h1
    have h2 := szS_len (R2.map SV.s)
    rw [List.length_map] at h2
    have h3 := HLn.out
    rw [List.length_append]
    omega
   have hkn : k ≤ n := by omega
   have HC := hide (HSm.out _ _ _ _ b y1 (Pa.ups hkn hpe) hS hln)
   have HDn : Hid (Dm (tokT C.l) y1 (clS (tokT C.l) [125] s1)) := hpn.dm.trans (dm_cl _ _)
   have HRel : Hid (∀ W u Q, Q.map SV.s = b → SB C m B w v W u (R ++ R2 ++ Q) y1 → ∃ (R3 : List SV) (y' : PS), k ≤ n ∧ Pa (tokT C.l) k (.bs (R3.map SV.s)) y' (.s a) s1 ∧ SB C m B w v W u (R ++ R3) y') := fun W u Q hq h => ⟨R2 ++ Q, y1, hkn, by rw [List.map_append, hq]; exact hpn, by rw [← List.append_assoc]; exact h⟩
   clear hp hgk hS hi hpe hpn hln
   go_wp2_with fail
   refine HI.out.mono ?_
   rintro e w9 ⟨rfl, hw⟩
   rw [hw]
   clear hw HI
   have hS := HS.out
   go_wp2_with fail
   refine (HC.out).mono (fun e w5 hg => ?_)
   rcases hg.symm with hd | ⟨-, u5, Q, rfl, hmQ, hn⟩
   ·have HF : Hid (StI C m w B v R a (clS (tokT C.l) [125] s1) e w5) := hS.die hd (HDn.out)
    obtain ⟨-, rfl, -⟩ := hd
    unfold flt at *
    go_wp2_with fail
    exact ⟨rfl, HF.out⟩
   have hS5 := hS.then hn
   clear hn
   have HF := hide (HRel.out _ _ Q hmQ hS5)
   clear hS5 hS HRel
   go_wp2_with fail
   go_roundg k
   case measure => omega
   case rel => exact HF.out
end
section
open Go.RowKit
theorem SB.putA {C : RC} {m : TV} {B : Nat} {w0 w : World} {v0 v : Value} {R Q : List SV} {q q' : SV} {s : PS} (h : SB C m B w0 v0 w v (R ++ [q] ++ Q) s) (i : Nat) (x : Int) (hi : i < 6) (hq : cellsS q' = (cellsS q).set i (.int .i64 x)) (hk : q'.ke = q.ke ∧ q'.kf = q.kf ∧ q'.ve = q.ve ∧ q'.vf = q.vf ∧ q'.s.e = q.s.e ∧ q'.s.f = q.s.f) :
  ∃ g c ln, v = .slice (some ⟨g, 0, none⟩) ln c ∧ ln = R.length + 1 + Q.length ∧ w.cell? ⟨g, R.length * 6 + i, none⟩ = (cellsS q)[i]? ∧ w.frozen? ⟨g, R.length * 6 + i, none⟩ = false ∧ SB C m B w0 v0 (w.setCell ⟨g, R.length * 6 + i, none⟩ (.int .i64 x)) v (R ++ [q'] ++ Q) s := by
 have hj : R.length < (R ++ [q] ++ Q).length := by simp only [List.length_append, List.length_singleton]; omega
 have e : (R ++ [q] ++ Q)[R.length] = q := by simp
 have es : (R ++ [q] ++ Q).set R.length q' = R ++ [q'] ++ Q := by
  rw [List.append_assoc, List.set_append_right _ _ (Nat.le_refl _)]
  simp
 obtain ⟨g, c, h1, h2, h3, h4⟩ := h.put R.length i q' x hj hi (by rw [e]; exact hq) (by rw [e]; exact hk)
 rw [e] at h2
 rw [es] at h4
 exact ⟨g, c, _, h1, by simp only [List.length_append, List.length_singleton], h2, h3, h4⟩
theorem len_thn {ln rl bl : Nat} (h : ln = rl + 1 + bl) : (ln : Int) - (rl : Int) = (bl : Int) + 1 := by omega
theorem len_els {ln bh cl : Nat} (h : ln = bh + cl) : (ln : Int) - (bh : Int) = (cl : Int) := by omega
theorem len_ix {ln rl bl : Nat} (h : ln = rl + 1 + bl) : (0 : Int) ≤ (rl : Int) ∧ (rl : Int) < (ln : Int) := by omega
end
section
open Go.RowKit
set_option maxRecDepth 100000 in
set_option maxHeartbeats 4000000 in
theorem ch_no {C : RC} (HN : NxI C) {n : Nat} (hWt : WtI C n) (hBk : BkI C n) {w : World} {m : TV} {B : Nat} {s : PS} {v : Value} {R : List SV} {a : List Nd} {b : List St} {s1 s2 : PS}  (hS : RSt C m w s.ad) (hr : StRow B w v R) (hPB : C.P + 1 < B) (hBw : B ≤ w.heap.size) (hp : Pa (tokT C.l) n (.pr [40] [41]) s.ad (.n a) s1) (hb : Pa (tokT C.l) n .bl s1 (.s b) s2) (hl : R.length + a.length + szS b + 1 ≤ 1000000) (he : isS (tokT C.l) [101, 108, 115, 101] s2 = false) : Calls Tryz.prog 179 #[.pointer (some ⟨C.P, 0, none⟩), v] w (StI C m w B v R (⟨4, tx [], a, [], (b.length : Int), 0⟩ :: b) s2) := by
 obtain ⟨av, cv, rfl⟩ := hr.shape
 have hS2 := SB.start hS hr hPB hBw
 have HSk : Hid (∀ W, RSt C m W s2 → Calls Tryz.prog 126 #[.pointer (some ⟨C.P, 0, none⟩), .string (tx [101, 108, 115, 101])] W fun e w' => (isS (tokT C.l) [101, 108, 115, 101] s2 = false ∧ e = .returned (.bool false) ∧ w' = W) ∨ (isS (tokT C.l) [101, 108, 115, 101] s2 = true ∧ Go1 C m W s2.ad (.bool true) e w')) := fun W h => skip_any HN h [101, 108, 115, 101] (by decide)
 have HWt : Hid (∀ W, RSt C m W s.ad → Calls Tryz.prog 180 #[.pointer (some ⟨C.P, 0, none⟩), .string (tx [40]), .string (tx [41])] W (NdI C m W W.heap.size (.slice none 0 0) a s1)) := fun W h => hWt W m s.ad [40] [41] a s1 (by decide) (by decide) hp h (by omega)
 have HBk : Hid (∀ W u Q y b y1, Pa (tokT C.l) n .bl y (.s b) y1 → SB C m B w (.slice av R.length cv) W u Q y → Q.length + szS b ≤ 1000000 → Calls Tryz.prog 131 #[.pointer (some ⟨C.P, 0, none⟩), u] W (StI C m W B u Q b y1)) := fun W u Q y b y1 hp h hl => hBk W m B y u Q b y1 hp h.st h.row h.pb h.le hl
 have HDw : Hid (Dm (tokT C.l) s1 s2) := hb.dm
 have HDb : Hid (Dm (tokT C.l) s2 s2) := Dm.refl _
 have HPb := hide hb
 have hlb := szS_len b
 clear hWt hBk hp hb HN hS hr hPB hBw
 go_enter Tryz.func179, Tryz.ntmps179
 go_wp2_with fail
 have HC := hide (HWt.out w hS2.st)
 have ho := hS2.old
 have hBs := hS2.le
 refine (HC.out).mono (fun e w3 hg => ?_)
 rcases hg.symm with hd | ⟨-, u3, rfl, hn⟩
 ·have HF : Hid (StI C m w B (.slice av R.length cv) R (⟨4, tx [], a, [], (b.length : Int), 0⟩ :: b) s2 e w3) := hS2.die hd (HDw.out)
  obtain ⟨-, rfl, -⟩ := hd
  unfold flt at *
  go_wp2_with fail
  exact ⟨rfl, HF.out⟩
 obtain ⟨hS3, hr3⟩ := hS2.fr hn
 obtain ⟨adu3, cpu3, rfl, -⟩ := own_shape hr3
 clear hn
 obtain ⟨W4, eW4⟩ : ∃ W4, W4 = w3.alloc (.cells #[.int .i64 4, .string (⟨#[]⟩), .slice adu3 a.length cpu3, .slice none 0 0, .int .i64 0, .int .i64 0] 46) := ⟨_, rfl⟩
 obtain ⟨B4, eB4⟩ : ∃ B4, B4 = w3.heap.size := ⟨_, rfl⟩
 obtain ⟨K4, u4, w4, r4, f4⟩ := hS3.lit (w1 := w) 4 (⟨#[]⟩) hr3 ho hBs eW4 eB4 (by omega)
 have HW4 := hide eW4
 have HB4 := hide eB4
 have HR4 := hide r4
 clear eW4 eB4 r4
 have HC5 := hide (HBk.out w4 u4 _ s1 b s2 HPb.out f4 (by rw [List.length_append, List.length_singleton]; omega))
 have hS4 := f4
 clear f4 hS3 hS2 hr3 HC
 go_wp2_with (at_builtin; rw [← HW4.out, ← HB4.out]; refine wpList_appG rfl _ _ _ rfl _ _ u4 w4 rfl rfl HR4.out ?_)
 refine (HC5.out).mono (fun e w5 hg => ?_)
 rcases hg.symm with hd | ⟨-, u5, Q, rfl, hmQ, hn⟩
 ·have HF : Hid (StI C m w B (.slice av R.length cv) R (⟨4, tx [], a, [], (b.length : Int), 0⟩ :: b) s2 e w5) := hS4.die hd (HDb.out)
  obtain ⟨-, rfl, -⟩ := hd
  unfold flt at *
  go_wp2_with fail
  exact ⟨rfl, HF.out⟩
 have hS5 := hS4.then hn
 clear hn
 obtain ⟨g, gc, ln, rfl, hln, hc4, hf4, hX⟩ := hS5.putA (q' := ⟨⟨4, tx [], a, [], (b.length : Int), 0⟩, .slice adu3 a.length cpu3, .slice none 0 0, K4, []⟩) 4 (b.length : Int) (by decide) rfl ⟨rfl, rfl, rfl, rfl, rfl, rfl⟩
 have hQl : Q.length = b.length := by rw [← hmQ, List.length_map]
 have e4 : (ln : Int) - (R.length : Int) = (b.length : Int) + 1 := len_thn (hln.trans (by rw [hQl]))
 obtain ⟨i0, i1⟩ := len_ix hln
 have hc4' : w5.cell? ⟨g, R.length * 6 + 4, none⟩ = some (.int .i64 0) := hc4
 obtain ⟨X6, eX6⟩ : ∃ X6, X6 = w5.setCell ⟨g, R.length * 6 + 4, none⟩ (.int .i64 (b.length : Int)) := ⟨_, rfl⟩
 have HLn := hide hln
 rw [← eX6] at hX
 have HX6 := hide eX6
 have HQ := hide hmQ
 have HQl := hide hQl
 clear eX6 hc4 hln hS5 hS4 hmQ hQl HC5
 go_upto_region 4 with fail
 rw [← HX6.out]
 clear hc4' hf4
 have HK := hide (HSk.out X6 hX.st)
 have hF : StI C m w B (.slice av R.length cv) R (⟨4, tx [], a, [], (b.length : Int), 0⟩ :: b) s2 (.returned (.slice (some ⟨g, 0, none⟩) ln gc)) X6 := by
  rw [List.append_assoc] at hX
  exact hX.fin (by rw [List.map_append, HQ.out]; rfl)
 have HF := hide hF
 clear hX hF
 go_wp2_with fail
 refine (HK.out).mono (fun e w9 hg => ?_)
 rcases hg.symm with ⟨hbad, -⟩ | ⟨-, rfl, hw⟩
 ·rw [he] at hbad; cases hbad
 rw [hw]
 clear hw
 go_wp2_with fail
 go_ret
 exact HF.out
end
section
open Go.RowKit
set_option maxRecDepth 100000 in
set_option maxHeartbeats 4000000 in
theorem ch_el {C : RC} (HN : NxI C) {n : Nat} (hWt : WtI C n) (hBk : BkI C n) {w : World} {m : TV} {B : Nat} {s : PS} {v : Value} {R : List SV} {a : List Nd} {b : List St} {s1 s2 : PS} {c : List St} {s' : PS} (hS : RSt C m w s.ad) (hr : StRow B w v R) (hPB : C.P + 1 < B) (hBw : B ≤ w.heap.size) (hp : Pa (tokT C.l) n (.pr [40] [41]) s.ad (.n a) s1) (hb : Pa (tokT C.l) n .bl s1 (.s b) s2) (hl : R.length + a.length + szS b + szS c + 1 ≤ 1000000) (he : isS (tokT C.l) [101, 108, 115, 101] s2 = true) (hc : Pa (tokT C.l) n .bl s2.ad (.s c) s') : Calls Tryz.prog 179 #[.pointer (some ⟨C.P, 0, none⟩), v] w (StI C m w B v R (⟨4, tx [], a, [], (b.length : Int), (c.length : Int)⟩ :: (b ++ c)) s') := by
 obtain ⟨av, cv, rfl⟩ := hr.shape
 have hS2 := SB.start hS hr hPB hBw
 have HSk : Hid (∀ W, RSt C m W s2 → Calls Tryz.prog 126 #[.pointer (some ⟨C.P, 0, none⟩), .string (tx [101, 108, 115, 101])] W fun e w' => (isS (tokT C.l) [101, 108, 115, 101] s2 = false ∧ e = .returned (.bool false) ∧ w' = W) ∨ (isS (tokT C.l) [101, 108, 115, 101] s2 = true ∧ Go1 C m W s2.ad (.bool true) e w')) := fun W h => skip_any HN h [101, 108, 115, 101] (by decide)
 have HWt : Hid (∀ W, RSt C m W s.ad → Calls Tryz.prog 180 #[.pointer (some ⟨C.P, 0, none⟩), .string (tx [40]), .string (tx [41])] W (NdI C m W W.heap.size (.slice none 0 0) a s1)) := fun W h => hWt W m s.ad [40] [41] a s1 (by decide) (by decide) hp h (by omega)
 have HBk : Hid (∀ W u Q y b y1, Pa (tokT C.l) n .bl y (.s b) y1 → SB C m B w (.slice av R.length cv) W u Q y → Q.length + szS b ≤ 1000000 → Calls Tryz.prog 131 #[.pointer (some ⟨C.P, 0, none⟩), u] W (StI C m W B u Q b y1)) := fun W u Q y b y1 hp h hl => hBk W m B y u Q b y1 hp h.st h.row h.pb h.le hl
 have HDc : Hid (Dm (tokT C.l) s2.ad s') := hc.dm
 have HDb : Hid (Dm (tokT C.l) s2 s') := Dm.no (is_nd he).1
 have HDw : Hid (Dm (tokT C.l) s1 s') := hb.dm.trans HDb.out
 have HPb := hide hb
 have HPc := hide hc
 have hlb := szS_len b
 have hlc := szS_len c
 clear hWt hBk hp hb hc HN hS hr hPB hBw
 go_enter Tryz.func179, Tryz.ntmps179
 go_wp2_with fail
 have HC := hide (HWt.out w hS2.st)
 have ho := hS2.old
 have hBs := hS2.le
 refine (HC.out).mono (fun e w3 hg => ?_)
 rcases hg.symm with hd | ⟨-, u3, rfl, hn⟩
 ·have HF : Hid (StI C m w B (.slice av R.length cv) R (⟨4, tx [], a, [], (b.length : Int), (c.length : Int)⟩ :: (b ++ c)) s' e w3) := hS2.die hd (HDw.out)
  obtain ⟨-, rfl, -⟩ := hd
  unfold flt at *
  go_wp2_with fail
  exact ⟨rfl, HF.out⟩
 obtain ⟨hS3, hr3⟩ := hS2.fr hn
 obtain ⟨adu3, cpu3, rfl, -⟩ := own_shape hr3
 clear hn
 obtain ⟨W4, eW4⟩ : ∃ W4, W4 = w3.alloc (.cells #[.int .i64 4, .string (⟨#[]⟩), .slice adu3 a.length cpu3, .slice none 0 0, .int .i64 0, .int .i64 0] 46) := ⟨_, rfl⟩
 obtain ⟨B4, eB4⟩ : ∃ B4, B4 = w3.heap.size := ⟨_, rfl⟩
 obtain ⟨K4, u4, w4, r4, f4⟩ := hS3.lit (w1 := w) 4 (⟨#[]⟩) hr3 ho hBs eW4 eB4 (by omega)
 have HW4 := hide eW4
 have HB4 := hide eB4
 have HR4 := hide r4
 clear eW4 eB4 r4
 have HC5 := hide (HBk.out w4 u4 _ s1 b s2 HPb.out f4 (by rw [List.length_append, List.length_singleton]; omega))
 have hS4 := f4
 clear f4 hS3 hS2 hr3 HC
 go_wp2_with (at_builtin; rw [← HW4.out, ← HB4.out]; refine wpList_appG rfl _ _ _ rfl _ _ u4 w4 rfl rfl HR4.out ?_)
 refine (HC5.out).mono (fun e w5 hg => ?_)
 rcases hg.symm with hd | ⟨-, u5, Q, rfl, hmQ, hn⟩
 ·have HF : Hid (StI C m w B (.slice av R.length cv) R (⟨4, tx [], a, [], (b.length : Int), (c.length : Int)⟩ :: (b ++ c)) s' e w5) := hS4.die hd (HDb.out)
  obtain ⟨-, rfl, -⟩ := hd
  unfold flt at *
  go_wp2_with fail
  exact ⟨rfl, HF.out⟩
 have hS5 := hS4.then hn
 clear hn
 obtain ⟨g, gc, ln, rfl, hln, hc4, hf4, hX⟩ := hS5.putA (q' := ⟨⟨4, tx [], a, [], (b.length : Int), 0⟩, .slice adu3 a.length cpu3, .slice none 0 0, K4, []⟩) 4 (b.length : Int) (by decide) rfl ⟨rfl, rfl, rfl, rfl, rfl, rfl⟩
 have hQl : Q.length = b.length := by rw [← hmQ, List.length_map]
 have e4 : (ln : Int) - (R.length : Int) = (b.length : Int) + 1 := len_thn (hln.trans (by rw [hQl]))
 obtain ⟨i0, i1⟩ := len_ix hln
 have hc4' : w5.cell? ⟨g, R.length * 6 + 4, none⟩ = some (.int .i64 0) := hc4
 obtain ⟨X6, eX6⟩ : ∃ X6, X6 = w5.setCell ⟨g, R.length * 6 + 4, none⟩ (.int .i64 (b.length : Int)) := ⟨_, rfl⟩
 have HLn := hide hln
 rw [← eX6] at hX
 have HX6 := hide eX6
 have HQ := hide hmQ
 have HQl := hide hQl
 clear eX6 hc4 hln hS5 hS4 hmQ hQl HC5
 go_upto_region 4 with fail
 rw [← HX6.out]
 clear hc4' hf4
 have HK := hide (HSk.out X6 hX.st)
 go_wp2_with fail
 refine (HK.out).mono (fun e w7 hg => ?_)
 rcases hg with ⟨hbad, -⟩ | ⟨-, hg⟩
 ·rw [he] at hbad; cases hbad
 rcases hg.symm with hd | ⟨-, rfl, z2, t2⟩
 ·have HF : Hid (StI C m w B (.slice av R.length cv) R (⟨4, tx [], a, [], (b.length : Int), (c.length : Int)⟩ :: (b ++ c)) s' e w7) := hX.die hd (HDc.out)
  obtain ⟨-, rfl, -⟩ := hd
  unfold flt at *
  go_wp2_with fail
  exact ⟨rfl, HF.out⟩
 have hS7 := hX.go z2 t2
 clear z2 t2 hX HK
 have HC7 := hide (HBk.out w7 _ _ s2.ad c s' HPc.out hS7 (by have h1 := HQl.out; simp only [List.length_append, List.length_singleton]; omega))
 clear e4 i0 i1
 go_wp2_with fail
 refine (HC7.out).mono (fun e w8 hg => ?_)
 rcases hg.symm with hd | ⟨-, u8, Q2, rfl, hmQ2, hn⟩
 ·have HF : Hid (StI C m w B (.slice av R.length cv) R (⟨4, tx [], a, [], (b.length : Int), (c.length : Int)⟩ :: (b ++ c)) s' e w8) := hS7.die hd (Dm.refl _)
  obtain ⟨-, rfl, -⟩ := hd
  unfold flt at *
  go_wp2_with fail
  exact ⟨rfl, HF.out⟩
 have hS8 := hS7.then hn
 clear hn
 have hS8' : SB C m B w (.slice av R.length cv) w8 u8 (R ++ [⟨⟨4, tx [], a, [], (b.length : Int), 0⟩, .slice adu3 a.length cpu3, .slice none 0 0, K4, []⟩] ++ (Q ++ Q2)) s' := by rw [← List.append_assoc]; exact hS8
 obtain ⟨g2, gc2, ln2, rfl, hln2, hc5, hf5, hX9⟩ := hS8'.putA (q' := ⟨⟨4, tx [], a, [], (b.length : Int), (c.length : Int)⟩, .slice adu3 a.length cpu3, .slice none 0 0, K4, []⟩) 5 (c.length : Int) (by decide) rfl ⟨rfl, rfl, rfl, rfl, rfl, rfl⟩
 have hQ2 : Q2.length = c.length := by rw [← hmQ2, List.length_map]
 have e5 : (ln2 : Int) - (ln : Int) = (c.length : Int) := len_els (ln := ln2) (bh := ln) (cl := c.length) (by have := HLn.out; rw [List.length_append] at hln2; omega)
 obtain ⟨i0, i1⟩ := len_ix hln2
 have hc5' : w8.cell? ⟨g2, R.length * 6 + 5, none⟩ = some (.int .i64 0) := hc5
 obtain ⟨X9, eX9⟩ : ∃ X9, X9 = w8.setCell ⟨g2, R.length * 6 + 5, none⟩ (.int .i64 (c.length : Int)) := ⟨_, rfl⟩
 rw [← eX9] at hX9
 have hF : StI C m w B (.slice av R.length cv) R (⟨4, tx [], a, [], (b.length : Int), (c.length : Int)⟩ :: (b ++ c)) s' (.returned (.slice (some ⟨g2, 0, none⟩) ln2 gc2)) X9 := by
  rw [List.append_assoc] at hX9
  exact hX9.fin (by rw [List.map_append, List.map_append, HQ.out, hmQ2]; rfl)
 have HF := hide hF
 have HX9 := hide eX9
 clear hX9 hF eX9 hc5 hln2 hS8 hS8' hmQ2 hQ2 hS7 HC7
 go_upto_region 8 with fail
 rw [← HX9.out]
 clear hc5' hf5
 go_wp2_with fail
 go_ret
 exact HF.out
end
section
open Go.RowKit
set_option maxRecDepth 100000 in
set_option maxHeartbeats 4000000 in
theorem im_if {C : RC} (HN : NxI C) {n : Nat} {w : World} {m : TV} {B : Nat} {s : PS} {v : Value} {R : List SV} {r : List St} {s' : PS} (hS : RSt C m w s) (hr : StRow B w v R) (hPB : C.P + 1 < B) (hBw : B ≤ w.heap.size) (hi : isS (tokT C.l) [105, 102] s = true) (hdm : Dm (tokT C.l) s.ad s') (hC : ∀ W, SB C m B w v W v R s.ad → Calls Tryz.prog 179 #[.pointer (some ⟨C.P, 0, none⟩), v] W (StI C m W B v R r s')) : Calls Tryz.prog 158 #[.pointer (some ⟨C.P, 0, none⟩), v] w (StI C m w B v R r s') := by
 have hS0 := SB.start hS hr hPB hBw
 have HSk : Hid (∀ x, fixB x = true → Calls Tryz.prog 126 #[.pointer (some ⟨C.P, 0, none⟩), .string (tx x)] w fun e w' => (isS (tokT C.l) x s = false ∧ e = .returned (.bool false) ∧ w' = w) ∨ (isS (tokT C.l) x s = true ∧ Go1 C m w s.ad (.bool true) e w')) := fun x hx => skip_any HN hS x hx
 have HEx : Hid (∀ W y x, fixB x = true → RSt C m W y → Calls Tryz.prog 92 #[.pointer (some ⟨C.P, 0, none⟩), .string (tx x)] W (Go1 C m W (taS (tokT C.l) x y) (.tuple #[]))) := fun W y x hx h => expect_any HN h x hx
 have p2 := hS.cki
 have e1 : (kiI (tokT C.l s.i) == 1) = false := by rw [ki_fix hS (by decide) hi]; rfl
 have h1 : isS (tokT C.l) [105, 110, 116] s = false := is_two hi (by decide)
 have HCh := hide hC
 have HDm := hide hdm
 clear hC hdm HN hS hr hPB hBw
 generalize kiI (tokT C.l s.i) = ki at *
 go_enter Tryz.func158, Tryz.ntmps158
 go_wp2_with fail
 refine (HSk.out [105, 110, 116] (by decide)).mono (fun e w9 hg => ?_)
 rcases hg.symm with ⟨hbad, -⟩ | ⟨-, rfl, hw⟩
 ·rw [h1] at hbad; cases hbad
 rw [hw]
 clear hw
 go_wp2_with fail
 refine (HSk.out [105, 102] (by decide)).mono (fun e w2 hg => ?_)
 rcases hg with ⟨hbad, -⟩ | ⟨-, hg⟩
 ·rw [hi] at hbad; cases hbad
 rcases hg.symm with hd | ⟨-, rfl, z2, t2⟩
 ·have HF : Hid (StI C m w B v R r s' e w2) := hS0.die hd (HDm.out)
  obtain ⟨-, rfl, -⟩ := hd
  unfold flt at *
  go_wp2_with fail
  exact ⟨rfl, HF.out⟩
 have hS2 := hS0.go z2 t2
 clear z2 t2 hS0 HSk
 go_wp2_with fail
 have HC := hide (HCh.out w2 hS2)
 refine (HC.out).mono (fun e w3 hg => ?_)
 rcases hg.symm with hd | ⟨-, u3, Q, rfl, hmQ, hn⟩
 ·have HF : Hid (StI C m w B v R r s' e w3) := hS2.die hd (Dm.refl _)
  obtain ⟨-, rfl, -⟩ := hd
  unfold flt at *
  go_wp2_with fail
  exact ⟨rfl, HF.out⟩
 have hS3 := hS2.then hn
 clear hn
 have HF := hide (hS3.fin hmQ)
 clear hS3 hS2
 go_wp2_with fail
 go_ret
 exact HF.out
end
section
open Go.RowKit
theorem BI.nw {C : RC} {m : TV} {w W : World} {M : Nat} {z : PS} (cs : Array Value) (T : TypeId) (h0 : 0 < cs.size) (hc : cs.size ≤ 10) (hS : RSt C m w z) (hW : W = w.alloc (.cells cs T)) (hM : M = w.heap.size) : BI C m w M cs.toList W z := by
 have hb : Below w.heap.size w W := by rw [hW]; exact (Below.refl _ _).alloc (Nat.le_refl _) _
 have hx : FrC W M cs.toList := by rw [hW, hM]; exact box_fr w cs _ (by omega)
 have h0 : 0 < cs.toList.length := by rw [Array.length_toList]; omega
 exact ⟨hS.below hb, hx, (Tcs.refl _ _).of_below hb, World.block_lt_of_cell? _ _ (hx 0 _ (List.getElem?_eq_getElem h0)).1, by rw [hM]; exact Nat.le_refl _, hS.lt⟩
theorem RSt.setm {C : RC} {m m' : TV} {w : World} {z : PS} (h : RSt C m w z) (i : Nat) (u : Value) (he : ∀ pos kd tt vl pl op, (C.box pos kd tt vl pl m op).set i u = C.box pos kd tt vl pl m' op) : RSt C m' (w.setCell ⟨C.P, i, none⟩ u) z ∧ Tcs (fun k => k = C.P) w (w.setCell ⟨C.P, i, none⟩ u) := by
 obtain ⟨tt, vl, h1, h2⟩ := h.bx
 obtain ⟨h3, h4⟩ := h1.put h.ok i u (he _ _ _ _ _ _)
 exact ⟨⟨h.ok, h.al, h.wf, h.op, tt, vl, h3, h2⟩, h4⟩
theorem RSt.q {C : RC} {m : TV} {w : World} {z : PS} (h : RSt C m w z) : (w.cell? ⟨C.P, 6, none⟩ = some m.vg ∧ w.frozen? ⟨C.P, 6, none⟩ = false) ∧ (w.cell? ⟨C.P, 7, none⟩ = some m.vf ∧ w.frozen? ⟨C.P, 7, none⟩ = false) ∧ (w.cell? ⟨C.P, 9, none⟩ = some (.bool m.nz) ∧ w.frozen? ⟨C.P, 9, none⟩ = false) := by
 obtain ⟨tt, vl, h1, h2⟩ := h.bx
 exact ⟨h1.box 6 _ rfl, h1.box 7 _ rfl, h1.box 9 _ rfl⟩
theorem BI.setm {C : RC} {m m' : TV} {w0 W W' : World} {M : Nat} {xs : List Value} {z : PS} (h : BI C m w0 M xs W z) (i : Nat) (u : Value) (he : ∀ pos kd tt vl pl op, (C.box pos kd tt vl pl m op).set i u = C.box pos kd tt vl pl m' op) (hW : W' = W.setCell ⟨C.P, i, none⟩ u) : BI C m' w0 M xs W' z := by
 obtain ⟨h1, h2⟩ := h.st.setm i u he
 rw [← hW] at h1 h2
 exact ⟨h1, h.bx.tcs h.m h2 (fun e => h.ne e.symm), h.t.trans h2, Nat.lt_of_lt_of_le h.m h2.size, h.mw, h.hl⟩
theorem glob_end {C : RC} {m m' : TV} {B M : Nat} {w W W' W7 : World} {nm : ByteArray} {v : Int} {z : PS} {t t' : Tr} {Q : List FV} {b : Nat} (h : BI C m' w M [.string nm, .int .i64 v] W z) (hJ : TrJ B w m t t' Q) (hm : m'.vg = m.vg ∧ m'.vf = m.vf) (g : Gl) (h1 : m'.nz = false → m.nz = false ∧ g = ⟨nm, v⟩) (h2 : m'.nz = true → m.nz = true ∨ g.size = -1) (hPB : C.P + 1 < B) (hB : B ≤ w.heap.size) (hl : t.globals.length ≤ 100000)
  (hb : Below W.heap.size W W') (hW : W7 = W'.alloc (.cells #[.string nm, .int .i64 v] 74)) (hbe : b = W'.heap.size) :
  ∃ v8 W8, (Builtin.append_ #[23, 23] 23 #[m'.vg, .slice (some ⟨b, 0, none⟩) 1 1]).run Tryz.prog W7 = .ok v8 W8 ∧ (∃ a n c, v8 = .slice a n c) ∧ FrC W7 M [.string nm, .int .i64 v] ∧ W7.cell? ⟨C.P, 6, none⟩ = some m'.vg ∧ FrC W8 M [.string nm, .int .i64 v] ∧ (W8.cell? ⟨C.P, 6, none⟩ = some m'.vg ∧ W8.frozen? ⟨C.P, 6, none⟩ = false) ∧ PgI C B w (addT t (.inl g)) z (.returned (.tuple #[])) (W8.setCell ⟨C.P, 6, none⟩ v8) := by
 have h' := h.below hb
 obtain ⟨v8, W8, r1, r2, r3, r4⟩ := hJ.own.addG ⟨nm, v⟩ h'.t (fun k hk => by rw [hk]; have := hPB; omega) hB hW hbe (by rw [hJ.len]; exact hl)
 have hvg : ∀ k, m.vg.ownBlock = some k → B ≤ k ∧ k < w.heap.size := fun k hk => World.ownsRow.lt hJ.own.gs k hk
 have hhi := h.st.ok.hi
 have hmw := h.mw
 have hst8 : RSt C m' W8 z := h'.st.tcs r2 (fun e => by have := (hvg _ e).1; omega) (fun k hk => by have := (hvg k hk).1; omega)
 have hx8 := h'.bx.tcs h'.m r2 (fun e => by have := (hvg _ e).2; omega)
 have hb7 : Below W'.heap.size W' W7 := by rw [hW]; exact (Below.refl _ _).alloc (Nat.le_refl _) _
 have h7 := h'.below hb7
 obtain ⟨s9, t9⟩ := hst8.setm (m' := { m' with vg := v8 }) 6 v8 (fun _ _ _ _ _ _ => rfl)
 rw [hm.1]
 refine ⟨v8, W8, r1, r3, h7.bx, by rw [← hm.1]; exact h7.st.q.1.1, hx8, by rw [← hm.1]; exact hst8.q.1, .inl ⟨h.st.al, _, rfl, s9, ⟨⟨t'.globals ++ [⟨nm, v⟩], t'.funcs⟩, Q, ?_, ?_, ?_, ?_, ?_⟩, ?_⟩⟩
 ·have := r4.tcs t9 (fun k hk => by rw [hk]; have := hPB; omega)
  rw [← hm.2] at this
  exact this
 ·exact hJ.fu
 ·simp only [addT, List.length_append, List.length_singleton, hJ.len]
 ·intro hz
  obtain ⟨e1, e2⟩ := h1 hz
  simp only [addT, hJ.eq e1, e2]
 ·intro hz
  rcases h2 hz with e | e
  ·obtain ⟨x, hx, e2⟩ := hJ.bad e
   exact ⟨x, List.mem_append.2 (.inl hx), e2⟩
  ·exact ⟨g, List.mem_append.2 (.inr (by simp)), e⟩
 ·exact (((h'.t.mono fun k hk => .inl hk).trans (r2.mono fun k hk => .inr (hvg k hk).1)).trans (t9.mono fun k hk => .inl hk))
set_option maxRecDepth 100000 in
set_option maxHeartbeats 4000000 in
theorem globI_v {C : RC} (HN : NxI C) {m : TV} {w : World} {s : PS} {B : Nat} {t : Tr} (nm : ByteArray) (hS : RSt C m w s) (hT : TrI B w m t) (hPB : C.P + 1 < B) (hB : B ≤ w.heap.size) (hl : t.globals.length ≤ 100000) (hi : isS (tokT C.l) [91] s = false) :
  Calls Tryz.prog 96 #[.pointer (some ⟨C.P, 0, none⟩), .string nm] w (PgI C B w (addT t (.inl ⟨nm, 0⟩)) (taS (tokT C.l) [59] s)) := by
 obtain ⟨t', Q, hJ⟩ := hT
 obtain ⟨W1, eW1⟩ : ∃ W1, W1 = w.alloc (.cells #[.string nm, .int .i64 0] 74) := ⟨_, rfl⟩
 obtain ⟨M, eM⟩ : ∃ M, M = w.heap.size := ⟨_, rfl⟩
 have h1 := BI.nw #[.string nm, .int .i64 0] 74 (show 0 < 2 by omega) (show 2 ≤ 10 by omega) hS eW1 eM
 have HSe := hide (sees_any h1.st [91] (by decide))
 rw [hi] at HSe
 have hop := hS.op
 have HJ := hide hJ
 have HB := hide (And.intro hPB (And.intro hB hl))
 have HW1 := hide eW1
 have HM := hide eM
 have HEx : Hid (∀ W z, RSt C m W z → Calls Tryz.prog 92 #[.pointer (some ⟨C.P, 0, none⟩), .string (tx [59])] W (Go1 C m W (taS (tokT C.l) [59] z) (.tuple #[]))) := fun W z h => expect_any HN h [59] (by decide)
 clear eW1 eM hS hJ hPB hB hl HN hop
 have h1 : BI C m w M [.string nm, .int .i64 0] W1 s := h1
 go_enter Tryz.func96, Tryz.ntmps96
 go_upto_region 1 with fail
 rw [← HW1.out, ← HM.out]
 go_wp2_with fail
 refine HSe.out.mono ?_
 rintro e w2 ⟨rfl, hw⟩
 rw [hw]
 clear hw HSe
 go_wp2_with fail
 refine (HEx.out W1 s h1.st).mono (fun e w5 hg => ?_)
 rcases hg.symm with hd | ⟨-, rfl, z2, t2⟩
 ·have HF : Hid (PgI C B w (addT t (.inl ⟨nm, 0⟩)) (taS (tokT C.l) [59] s) e w5) := .inr (hd.later (Dm.refl _) h1.bb)
  obtain ⟨-, rfl, -⟩ := hd
  unfold flt at *
  go_wp2_with fail
  exact ⟨rfl, HF.out⟩
 have h5 := h1.go z2 t2
 clear z2 t2
 obtain ⟨W6, eW6⟩ : ∃ W6, W6 = w5.drew := ⟨_, rfl⟩
 have hb6 : Below w5.heap.size w5 W6 := by rw [eW6]; exact drew_below w5
 obtain ⟨W7, eW7⟩ : ∃ W7, W7 = W6.alloc (.cells #[.string nm, .int .i64 0] 74) := ⟨_, rfl⟩
 obtain ⟨b7, eb7⟩ : ∃ b7, b7 = W6.heap.size := ⟨_, rfl⟩
 obtain ⟨v8, W8, r8, hv8, x7, c7, x8, c8, hF⟩ := glob_end h5 HJ.out ⟨rfl, rfl⟩ ⟨nm, 0⟩ (fun hz => ⟨hz, rfl⟩) (fun hz => .inl hz) HB.out.1 HB.out.2.1 HB.out.2.2 hb6 eW7 eb7
 obtain ⟨va, vn, vc, rfl⟩ := hv8
 have h6 := h5.below hb6
 have hvs : ∃ ga gn gc, m.vg = .slice ga gn gc := by
  obtain ⟨a, c, e, -⟩ := own_shape HJ.out.own.gs
  exact ⟨_, _, _, e⟩
 obtain ⟨ga, gn, gc, hve⟩ := hvs
 have c6 := h6.st.q.1.1
 try dsimp only at c6 c7 c8 r8
 rw [hve] at c6 c7 c8 r8
 have HS := hide (And.intro c6 (And.intro (h6.bx 0 _ rfl).1 (h6.bx 1 _ rfl).1))
 have HS7 := hide (And.intro c7 (And.intro (x7 0 _ rfl).1 (x7 1 _ rfl).1))
 have HS8 := hide (And.intro c8.1 (And.intro (x8 0 _ rfl).1 (x8 1 _ rfl).1))
 have HC8 := hide c8
 have HR8 := hide r8
 have HW6 := hide eW6
 have HW7 := hide eW7
 have HB7 := hide eb7
 have HF := hide hF
 clear eW6 eW7 eb7 r8 x7 c7 x8 c8 hF h6 c6 hb6 h5 hve
 go_upto_region 7 with fail
 refine wp_region_E 12 (fun X => X.cell? ⟨C.P, 6, none⟩ = some (.slice ga gn gc) ∧ X.cell? ⟨M, 0, none⟩ = some (.string nm) ∧ X.cell? ⟨M, 1, none⟩ = some (.int .i64 0)) (by kernel_rfl) ?_
 rw [← HW6.out]
 refine tk 0 [9, 10, 11, 12] HS.out ?_
 refine tk 1 [2, 3, 4, 5, 8, 12] HS.out ?_
 refine tk 2 [3, 4, 5, 8, 12] HS.out ?_
 refine tk 3 [4, 5, 8, 12] HS.out ?_
 refine tk 4 [5, 8, 12] HS.out ?_
 refine tk 5 [8, 12] HS.out ?_
 refine tk 6 [7, 8, 12] HS.out ?_
 clear HS
 refine wpAnyE_one (i := 7) (by kernel_rfl) rfl (fun K hK => ?_)
 go_simp
 rw [← HW7.out, ← HB7.out]
 refine hK.out _ _ (fun _ => HS7.out) ?_
 clear hK K
 try simp only [Act.put, tA, tB, tC]
 refine wpAnyE_one (i := 8) (by kernel_rfl) rfl (fun K hK => ?_)
 refine step_appR rfl (.tmp 41) (.tmp 43) 23 rfl (.slice ga gn gc) (.slice (some ⟨b7, 0, none⟩) 1 1) (.slice va vn vc) W8 rfl rfl HR8.out ?_
 refine hK.out _ _ (fun _ => HS8.out) ?_
 clear hK K HS7
 try simp only [Act.put, tA, tB, tC]
 refine tk 9 [10, 11, 12] HS8.out ?_
 refine tk 10 [11, 12] HS8.out ?_
 refine tk 11 [12] HS8.out ?_
 clear HS8
 have c80 := HC8.out.1
 have c81 := HC8.out.2
 refine wpAnyE_one (i := 12) (by kernel_rfl) rfl (fun K hK => ?_)
 go_simp
 refine hK.out _ _ (fun h => absurd rfl h) ?_
 clear hK K
 refine wpAnyE_done (by kernel_rfl) ?_ _
 go_wp2_with fail
 refine bodyPost_ret (results_none rfl _ _ _) rfl ?_
 exact HF.out
end
section
open Go.RowKit
set_option maxRecDepth 100000 in
set_option maxHeartbeats 4000000 in
theorem im_ret {C : RC} (HN : NxI C) {n : Nat} (hEd : EdI C n) {w : World} {m : TV} {B : Nat} {s : PS} {v : Value} {R : List SV} {a : List Nd} {s1 : PS} (hS : RSt C m w s) (hr : StRow B w v R) (hPB : C.P + 1 < B) (hBw : B ≤ w.heap.size) (hl : R.length + a.length + 1 ≤ 1000000) (hi : isS (tokT C.l) [114, 101, 116, 117, 114, 110] s = true) (hp : Pa (tokT C.l) n (.e 1) s.ad (.n a) s1) : Calls Tryz.prog 158 #[.pointer (some ⟨C.P, 0, none⟩), v] w (StI C m w B v R [⟨6, tx [], a, [], 0, 0⟩] (taS (tokT C.l) [59] s1)) := by
 have hS0 := SB.start hS hr hPB hBw
 have HSk : Hid (∀ x, fixB x = true → Calls Tryz.prog 126 #[.pointer (some ⟨C.P, 0, none⟩), .string (tx x)] w fun e w' => (isS (tokT C.l) x s = false ∧ e = .returned (.bool false) ∧ w' = w) ∨ (isS (tokT C.l) x s = true ∧ Go1 C m w s.ad (.bool true) e w')) := fun x hx => skip_any HN hS x hx
 have HEx : Hid (∀ W y x, fixB x = true → RSt C m W y → Calls Tryz.prog 92 #[.pointer (some ⟨C.P, 0, none⟩), .string (tx x)] W (Go1 C m W (taS (tokT C.l) x y) (.tuple #[]))) := fun W y x hx h => expect_any HN h x hx
 have p2 := hS.cki
 have e1 : (kiI (tokT C.l s.i) == 1) = false := by rw [ki_fix hS (by decide) hi]; rfl
 have h1 : isS (tokT C.l) [105, 110, 116] s = false := is_two hi (by decide)
 have h2 : isS (tokT C.l) [105, 102] s = false := is_two hi (by decide)
 have h3 : isS (tokT C.l) [119, 104, 105, 108, 101] s = false := is_two hi (by decide)
 have HEd : Hid (∀ W, RSt C m W s.ad → Calls Tryz.prog 178 #[.pointer (some ⟨C.P, 0, none⟩)] W (NdI C m W W.heap.size (.slice none 0 0) a (taS (tokT C.l) [59] s1))) := fun W h => hEd W m s.ad a s1 hp h (by omega)
 have HDm : Hid (Dm (tokT C.l) s.ad (taS (tokT C.l) [59] s1)) := hp.dm.trans (dm_ta _ _)
 clear hEd hp HN hS hr hPB hBw
 generalize kiI (tokT C.l s.i) = ki at *
 go_enter Tryz.func158, Tryz.ntmps158
 go_wp2_with fail
 refine (HSk.out [105, 110, 116] (by decide)).mono (fun e w9 hg => ?_)
 rcases hg.symm with ⟨hbad, -⟩ | ⟨-, rfl, hw⟩
 ·rw [h1] at hbad; cases hbad
 rw [hw]
 clear hw
 go_wp2_with fail
 refine (HSk.out [105, 102] (by decide)).mono (fun e w9 hg => ?_)
 rcases hg.symm with ⟨hbad, -⟩ | ⟨-, rfl, hw⟩
 ·rw [h2] at hbad; cases hbad
 rw [hw]
 clear hw
 go_wp2_with fail
 refine (HSk.out [119, 104, 105, 108, 101] (by decide)).mono (fun e w9 hg => ?_)
 rcases hg.symm with ⟨hbad, -⟩ | ⟨-, rfl, hw⟩
 ·rw [h3] at hbad; cases hbad
 rw [hw]
 clear hw
 go_wp2_with fail
 refine (HSk.out [114, 101, 116, 117, 114, 110] (by decide)).mono (fun e w2 hg => ?_)
 rcases hg with ⟨hbad, -⟩ | ⟨-, hg⟩
 ·rw [hi] at hbad; cases hbad
 rcases hg.symm with hd | ⟨-, rfl, z2, t2⟩
 ·have HF : Hid (StI C m w B v R [⟨6, tx [], a, [], 0, 0⟩] (taS (tokT C.l) [59] s1) e w2) := hS0.die hd (HDm.out)
  obtain ⟨-, rfl, -⟩ := hd
  unfold flt at *
  go_wp2_with fail
  exact ⟨rfl, HF.out⟩
 have hS2 := hS0.go z2 t2
 clear z2 t2 hS0 HSk
 go_wp2_with fail
 have HC := hide (HEd.out w2 hS2.st)
 have ho := hS2.old
 have hBs := hS2.le
 refine (HC.out).mono (fun e w3 hg => ?_)
 rcases hg.symm with hd | ⟨-, u3, rfl, hn⟩
 ·have HF : Hid (StI C m w B v R [⟨6, tx [], a, [], 0, 0⟩] (taS (tokT C.l) [59] s1) e w3) := hS2.die hd (Dm.refl _)
  obtain ⟨-, rfl, -⟩ := hd
  unfold flt at *
  go_wp2_with fail
  exact ⟨rfl, HF.out⟩
 obtain ⟨hS3, hr3⟩ := hS2.fr hn
 obtain ⟨adu3, cpu3, rfl, -⟩ := own_shape hr3
 clear hn
 obtain ⟨W4, eW4⟩ : ∃ W4, W4 = w3.alloc (.cells #[.int .i64 6, .string (⟨#[]⟩), .slice adu3 a.length cpu3, .slice none 0 0, .int .i64 0, .int .i64 0] 46) := ⟨_, rfl⟩
 obtain ⟨B4, eB4⟩ : ∃ B4, B4 = w3.heap.size := ⟨_, rfl⟩
 obtain ⟨K4, u4, w4, r4, f4⟩ := hS3.lit (w1 := w2) 6 (⟨#[]⟩) hr3 ho hBs eW4 eB4 (by omega)
 have HW4 := hide eW4
 have HB4 := hide eB4
 have HR4 := hide r4
 clear eW4 eB4 r4
 have HF := hide (f4.fin (a := [⟨6, tx [], a, [], 0, 0⟩]) rfl)
 clear f4 hS3 hS2 hr3
 go_wp2_with (at_builtin; rw [← HW4.out, ← HB4.out]; refine wpList_appG rfl _ _ _ rfl _ _ u4 w4 rfl rfl HR4.out ?_)
 go_ret
 exact HF.out
end
section
open Go.RowKit
set_option maxRecDepth 100000 in
set_option maxHeartbeats 4000000 in
theorem im_while {C : RC} (HN : NxI C) {n : Nat} (hWt : WtI C n) (hBk : BkI C n) {w : World} {m : TV} {B : Nat} {s : PS} {v : Value} {R : List SV} {a : List Nd} {b : List St} {s1 s2 : PS} (hS : RSt C m w s) (hr : StRow B w v R) (hPB : C.P + 1 < B) (hBw : B ≤ w.heap.size) (hl : R.length + a.length + szS b + 1 ≤ 1000000) (hi : isS (tokT C.l) [119, 104, 105, 108, 101] s = true) (hp : Pa (tokT C.l) n (.pr [40] [41]) s.ad (.n a) s1) (hb : Pa (tokT C.l) n .bl s1 (.s b) s2) : Calls Tryz.prog 158 #[.pointer (some ⟨C.P, 0, none⟩), v] w (StI C m w B v R (⟨5, tx [], a, [], (b.length : Int), 0⟩ :: b) s2) := by
 obtain ⟨av, cv, rfl⟩ := hr.shape
 have hS0 := SB.start hS hr hPB hBw
 have HSk : Hid (∀ x, fixB x = true → Calls Tryz.prog 126 #[.pointer (some ⟨C.P, 0, none⟩), .string (tx x)] w fun e w' => (isS (tokT C.l) x s = false ∧ e = .returned (.bool false) ∧ w' = w) ∨ (isS (tokT C.l) x s = true ∧ Go1 C m w s.ad (.bool true) e w')) := fun x hx => skip_any HN hS x hx
 have HEx : Hid (∀ W y x, fixB x = true → RSt C m W y → Calls Tryz.prog 92 #[.pointer (some ⟨C.P, 0, none⟩), .string (tx x)] W (Go1 C m W (taS (tokT C.l) x y) (.tuple #[]))) := fun W y x hx h => expect_any HN h x hx
 have p2 := hS.cki
 have e1 : (kiI (tokT C.l s.i) == 1) = false := by rw [ki_fix hS (by decide) hi]; rfl
 have h1 : isS (tokT C.l) [105, 110, 116] s = false := is_two hi (by decide)
 have h2 : isS (tokT C.l) [105, 102] s = false := is_two hi (by decide)
 have HWt : Hid (∀ W, RSt C m W s.ad → Calls Tryz.prog 180 #[.pointer (some ⟨C.P, 0, none⟩), .string (tx [40]), .string (tx [41])] W (NdI C m W W.heap.size (.slice none 0 0) a s1)) := fun W h => hWt W m s.ad [40] [41] a s1 (by decide) (by decide) hp h (by omega)
 have HBk : Hid (∀ W u Q y b y1, Pa (tokT C.l) n .bl y (.s b) y1 → SB C m B w (.slice av R.length cv) W u Q y → Q.length + szS b ≤ 1000000 → Calls Tryz.prog 131 #[.pointer (some ⟨C.P, 0, none⟩), u] W (StI C m W B u Q b y1)) := fun W u Q y b y1 hp h hl => hBk W m B y u Q b y1 hp h.st h.row h.pb h.le hl
 have HDm : Hid (Dm (tokT C.l) s.ad s2) := hp.dm.trans hb.dm
 have HDw : Hid (Dm (tokT C.l) s1 s2) := hb.dm
 have HDb : Hid (Dm (tokT C.l) s2 s2) := Dm.refl _
 have HPb := hide hb
 have hlb := szS_len b
 clear hWt hBk hp hb HN hS hr hPB hBw
 generalize kiI (tokT C.l s.i) = ki at *
 go_enter Tryz.func158, Tryz.ntmps158
 go_wp2_with fail
 refine (HSk.out [105, 110, 116] (by decide)).mono (fun e w9 hg => ?_)
 rcases hg.symm with ⟨hbad, -⟩ | ⟨-, rfl, hw⟩
 ·rw [h1] at hbad; cases hbad
 rw [hw]
 clear hw
 go_wp2_with fail
 refine (HSk.out [105, 102] (by decide)).mono (fun e w9 hg => ?_)
 rcases hg.symm with ⟨hbad, -⟩ | ⟨-, rfl, hw⟩
 ·rw [h2] at hbad; cases hbad
 rw [hw]
 clear hw
 go_wp2_with fail
 refine (HSk.out [119, 104, 105, 108, 101] (by decide)).mono (fun e w2 hg => ?_)
 rcases hg with ⟨hbad, -⟩ | ⟨-, hg⟩
 ·rw [hi] at hbad; cases hbad
 rcases hg.symm with hd | ⟨-, rfl, z2, t2⟩
 ·have HF : Hid (StI C m w B (.slice av R.length cv) R (⟨5, tx [], a, [], (b.length : Int), 0⟩ :: b) s2 e w2) := hS0.die hd (HDm.out)
  obtain ⟨-, rfl, -⟩ := hd
  unfold flt at *
  go_wp2_with fail
  exact ⟨rfl, HF.out⟩
 have hS2 := hS0.go z2 t2
 clear z2 t2 hS0 HSk
 go_wp2_with fail
 have HC := hide (HWt.out w2 hS2.st)
 have ho := hS2.old
 have hBs := hS2.le
 refine (HC.out).mono (fun e w3 hg => ?_)
 rcases hg.symm with hd | ⟨-, u3, rfl, hn⟩
 ·have HF : Hid (StI C m w B (.slice av R.length cv) R (⟨5, tx [], a, [], (b.length : Int), 0⟩ :: b) s2 e w3) := hS2.die hd (HDw.out)
  obtain ⟨-, rfl, -⟩ := hd
  unfold flt at *
  go_wp2_with fail
  exact ⟨rfl, HF.out⟩
 obtain ⟨hS3, hr3⟩ := hS2.fr hn
 obtain ⟨adu3, cpu3, rfl, -⟩ := own_shape hr3
 clear hn
 obtain ⟨W4, eW4⟩ : ∃ W4, W4 = w3.alloc (.cells #[.int .i64 5, .string (⟨#[]⟩), .slice adu3 a.length cpu3, .slice none 0 0, .int .i64 0, .int .i64 0] 46) := ⟨_, rfl⟩
 obtain ⟨B4, eB4⟩ : ∃ B4, B4 = w3.heap.size := ⟨_, rfl⟩
 obtain ⟨K4, u4, w4, r4, f4⟩ := hS3.lit (w1 := w2) 5 (⟨#[]⟩) hr3 ho hBs eW4 eB4 (by omega)
 have HW4 := hide eW4
 have HB4 := hide eB4
 have HR4 := hide r4
 clear eW4 eB4 r4
 have HC5 := hide (HBk.out w4 u4 _ s1 b s2 HPb.out f4 (by rw [List.length_append, List.length_singleton]; omega))
 have hS4 := f4
 clear f4 hS3 hS2 hr3 HC
 go_wp2_with (at_builtin; rw [← HW4.out, ← HB4.out]; refine wpList_appG rfl _ _ _ rfl _ _ u4 w4 rfl rfl HR4.out ?_)
 refine (HC5.out).mono (fun e w5 hg => ?_)
 rcases hg.symm with hd | ⟨-, u5, Q, rfl, hmQ, hn⟩
 ·have HF : Hid (StI C m w B (.slice av R.length cv) R (⟨5, tx [], a, [], (b.length : Int), 0⟩ :: b) s2 e w5) := hS4.die hd (HDb.out)
  obtain ⟨-, rfl, -⟩ := hd
  unfold flt at *
  go_wp2_with fail
  exact ⟨rfl, HF.out⟩
 have hS5 := hS4.then hn
 clear hn
 obtain ⟨g, gc, ln, rfl, hln, hc4, hf4, hX⟩ := hS5.putA (q' := ⟨⟨5, tx [], a, [], (b.length : Int), 0⟩, .slice adu3 a.length cpu3, .slice none 0 0, K4, []⟩) 4 (b.length : Int) (by decide) rfl ⟨rfl, rfl, rfl, rfl, rfl, rfl⟩
 have hQl : Q.length = b.length := by rw [← hmQ, List.length_map]
 have e4 : (ln : Int) - (R.length : Int) = (b.length : Int) + 1 := len_thn (hln.trans (by rw [hQl]))
 obtain ⟨i0, i1⟩ := len_ix hln
 have hc4' : w5.cell? ⟨g, R.length * 6 + 4, none⟩ = some (.int .i64 0) := hc4
 obtain ⟨X6, eX6⟩ : ∃ X6, X6 = w5.setCell ⟨g, R.length * 6 + 4, none⟩ (.int .i64 (b.length : Int)) := ⟨_, rfl⟩
 have HLn := hide hln
 rw [← eX6] at hX
 have HX6 := hide eX6
 have HQ := hide hmQ
 have HQl := hide hQl
 clear eX6 hc4 hln hS5 hS4 hmQ hQl HC5
 go_upto_region 13 with fail
 rw [← HX6.out]
 clear hc4' hf4
 have hF : StI C m w B (.slice av R.length cv) R (⟨5, tx [], a, [], (b.length : Int), 0⟩ :: b) s2 (.returned (.slice (some ⟨g, 0, none⟩) ln gc)) X6 := by
  rw [List.append_assoc] at hX
  exact hX.fin (by rw [List.map_append, HQ.out]; rfl)
 have HF := hide hF
 clear hX hF
 go_wp2_with fail
 go_ret
 exact HF.out
end
end Go.Proofs.YtlamjfhhefcohaaGreatDoor
