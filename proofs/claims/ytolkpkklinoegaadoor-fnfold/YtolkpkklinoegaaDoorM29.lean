import Derived.Test.YtolkpkklinoegaaDoorM28
import Derived.Deep.RegionHeld
import Derived.RegionTactic
set_option linter.unusedSectionVars false
variable [Inhabited Go.Proofs.YtolkpkklinoegaaDoor.Pick]
namespace Go.Proofs.YtolkpkklinoegaaDoor
set_option linter.unusedVariables false
set_option linter.unusedSimpArgs false
set_option maxRecDepth 100000
set_option maxHeartbeats 16000000
section
open Go.RowKit
theorem kid_ones {e : List Nd} {A : Nat} {b : Nat → Nat} (h1 : oneB e = true) (hc : Cut e A b) : ∀ i, i < A → oneB (kid e b i) = true := by
 obtain ⟨A', b', hc', hk⟩ := one_cuts h1
 obtain ⟨rfl, hb⟩ := hc.one hc'
 intro i hi
 have := hk i hi
 unfold kid at this ⊢
 rw [hb (i + 1) (by omega), hb i (by omega)]
 exact this
set_option maxRecDepth 100000 in
set_option maxHeartbeats 16000000 in
theorem exS_plain (C : RC) (hC : C.Ok) (n : Nat) (IH : ExS C n) (IC : CaS C n) (e : List Nd) (s : ES) (r : ER) (s' : ES) (hE : Ev C.t C.fr (n + 1) (.e e) s r s') (h8 : (rootN e).kind ≠ 8) (h9 : (rootN e).kind ≠ 9) (hkn : KnE C.t (s.l.map Prod.fst) e) (hsc : Scp C.t (s.l.map Prod.fst)) (h1 : oneB e = true) (hl1 : e.length ≤ 1048576) (w : World) (vl : Int) (lb : List Nat) (vL vI vO ve : Value) (h : RS C w 0 false vl lb vL vI vO s) (hN : Nodes C.w0 ve e) :
  Calls Tryd.prog 83 #[.pointer (some ⟨C.P, 0, none⟩), ve] w fun x w' => ExP C w lb vL vO r s' x w' := by
 obtain ⟨A, b, st, v, j, hc0, rfl, hjA, hch, hrest⟩ := ev_plain hE h8 h9
 have he := hc0.len
 have hA6 := hc0.arA
 have hk1 := kid_ones h1 hc0
 -- the states on the way
 have hchn := chn (t := C.t) (fr := C.fr) (n := n) (e := e) (b := b) (st := st) (v := v) (j := j) (fun i hi h0 => by
  obtain ⟨x1, x2, x3⟩ := (hch i hi).inv h0 trivial
  exact ⟨x1, x2 _ (.inl rfl), x3⟩) h.ok
 have hnm : ∀ i, i ≤ j → (st i).l = (st 0).l := fun i hi => (hchn i hi).2.1.2.2.2
 have HIk : Hid (∀ i, i < j → ∀ X vl1 vI1 vO1 vi, RS C X 0 false vl1 lb vL vI1 vO1 (st i) → Nodes C.w0 vi (kid e b i) → Calls Tryd.prog 83 #[.pointer (some ⟨C.P, 0, none⟩), vi] X fun x w' => ExP C X lb vL vO1 (.val (v i)) (st (i + 1)) x w') := fun i hi X vl1 vI1 vO1 vi hX hNi => by
  have hlt := hc0.kid_lt i (by omega)
  exact IH (kid e b i) (st i) _ _ (hch i hi) (by rw [hnm i (by omega)]; exact hkn.kid) (by rw [hnm i (by omega)]; exact hsc) (hk1 i (by omega)) (by omega) X vl1 lb vL vI1 vO1 vi hX hNi
 have HIj : Hid (j < A → ∃ c, r = .out c ∧ ∀ X vl1 vI1 vO1 vi, RS C X 0 false vl1 lb vL vI1 vO1 (st j) → Nodes C.w0 vi (kid e b j) → Calls Tryd.prog 83 #[.pointer (some ⟨C.P, 0, none⟩), vi] X fun x w' => ExP C X lb vL vO1 (.out c) s' x w') := fun hjl => by
  have hlt := hc0.kid_lt j hjl
  rcases hrest with ⟨-, c, hr, hEv⟩ | ⟨h0, -⟩ | ⟨h0, -⟩ | ⟨h0, -⟩
  ·exact ⟨c, hr, fun X vl1 vI1 vO1 vi hX hNi => IH (kid e b j) (st j) _ _ hEv (by rw [hnm j (Nat.le_refl _)]; exact hkn.kid) (by rw [hnm j (Nat.le_refl _)]; exact hsc) (hk1 j hjl) (by omega) X vl1 lb vL vI1 vO1 vi hX hNi⟩
  ·omega
  ·omega
  ·omega
 have HG : Hid (nodeB (rootN e) = true) := hc0.root_good
 have HAr : Hid (arity (rootN e) = A) := hc0.ar
 have HRS := hide h
 have HKn : Hid (nodeE C.t ((st 0).l.map Prod.fst) (rootN e) = 0) := hkn _ (rootN_mem he)
 have HR : Hid (Calls Tryd.prog 41 #[ve] w fun r w' => r = .returned (.agg #[.int .i64 (rootN e).kind, .int .i64 (rootN e).val, .string (rootN e).name]) ∧ Below w.heap.size w w') := by
  have := root_any _ e w he hl1 (hN.below h.bel)
  rw [← rootN_eq e he] at this
  exact this
 have HK : Hid (∀ W : World, Below w.heap.size w W → Calls Tryd.prog 42 #[ve] W fun r w' => ∃ v', r = .returned v' ∧ Kids C.w0 w' W.heap.size v' e b A ∧ Below W.heap.size W w') := fun W hW => kids_any C.w0 ve e A b W hl1 hN (h.bel.trans (hW.mono h.bel.size)) hc0
 have HNm := hide hnm
 have HOut : Hid (∀ c, r = .out c → c ≠ 0) := fun c hc => by have := hE.outc c hc; omega
 have HCh := hide hchn
 have HSc := hide hsc
 have HRest := hide hrest
 have HIC := hide IC
 have HC := hide hC
 have HNB := hide (show nodeB (rootN e) = true from hc0.root_good)
 clear IH IC hN hk1 h hE hch hrest hchn hnm hkn hsc hC
 generalize hR : rootN e = R at HG HAr HR HKn HRest h8 h9 HNB
 clear hR hc0
 obtain ⟨nk, nv, nm⟩ := R
 simp only at HR h8 h9
 have hba : ∀ w1 : World, Below w.heap.size w w1 → ∀ o, Below w.heap.size w (w1.alloc o) := fun w1 h o => h.alloc h.size o
 go_enter Tryd.func83, Tryd.ntmps83
 go_wp2_with fail
 refine HR.out.mono ?_
 rintro x w1 ⟨rfl, hb1⟩
 go_wp2_with fail
 refine (HK.out _ (hba _ hb1 _)).mono ?_
 rintro x W ⟨vk, rfl, hKd, hb2⟩
 obtain ⟨g0, g1, g2⟩ : W.cell? ⟨w1.heap.size, 0, none⟩ = some (.int .i64 nk) ∧ W.cell? ⟨w1.heap.size, 1, none⟩ = some (.int .i64 nv) ∧ W.cell? ⟨w1.heap.size, 2, none⟩ = some (.string nm) := by
  refine ⟨?_, ?_, ?_⟩
  ·rw [hb2.cell (by simp)]; simp
  ·rw [hb2.cell (by simp)]; simp
  ·rw [hb2.cell (by simp)]; simp
 have HBW : Hid (Below w.heap.size w W) := (hba _ hb1 _).trans (hb2.mono (by have := hb1.size; simp; omega))
 have hGl : w1.heap.size < W.heap.size := World.block_lt_of_cell? _ _ g0
 have hGw : w.heap.size ≤ w1.heap.size := hb1.size
 obtain ⟨ua, uc, rfl, hu1, hu2, hu3⟩ := hKd
 have HKc : Hid (∀ i, i < A → ∃ B, ua = some ⟨B, 0, none⟩ ∧ w.heap.size ≤ B ∧ B < W.heap.size ∧ ∃ vi, W.cell? ⟨B, i, none⟩ = some vi ∧ Nodes C.w0 vi (kid e b i)) := fun i hi => by
  obtain ⟨B, rfl, hB1, hB2, hBc⟩ := hu3 (by omega)
  obtain ⟨vi, q1, q2⟩ := hBc i hi
  exact ⟨B, rfl, by simp at hB1; omega, hB2, vi, q1, q2⟩
 generalize w1.heap.size = G at g0 g1 g2 hGl hGw ⊢
 clear hb1 hb2 HR HK hba hu3 hu2
 have HRW := hide (HRS.out.below HBW.out)
 have HTl : Hid (∀ k, TEx C vO k → k < w.heap.size) := fun k hk => (TEx.lt HRS.out k hk).1
 have HGc : Hid (∀ X, Tcs (TEx C vO) W X → X.cell? ⟨G, 0, none⟩ = some (.int .i64 nk) ∧ X.cell? ⟨G, 1, none⟩ = some (.int .i64 nv) ∧ X.cell? ⟨G, 2, none⟩ = some (.string nm)) := fun X hX => by
  have e0 : ∀ o, X.cell? ⟨G, o, none⟩ = W.cell? ⟨G, o, none⟩ := fun o => World.cell?_of_block (hX.block G hGl (fun hT => by have := HTl.out G hT; omega))
  exact ⟨(e0 0).trans g0, (e0 1).trans g1, (e0 2).trans g2⟩
 have HLI0 : Hid (LI C W lb vL vO A j st v r s' 0 (.slice (some ⟨W.heap.size, 0, none⟩) 0 0) (W.alloc (.cells #[] 2))) := by
  have hb : Below W.heap.size W (W.alloc (.cells #[] 2)) := (Below.refl _ _).alloc (Nat.le_refl _) _
  refine ⟨vI, vO, vl, [], World.ownsRow_lit W #[] 0 (Nat.le_refl _) (by decide) rfl, Nat.le_refl _, fun k hk e => ?_, hb.tcs, fun k hk => .inl hk, .inl ⟨Nat.zero_le _, rfl, HRW.out.below hb⟩⟩
  simp only [Value.ownBlock, Option.some.injEq] at hk
  have := (World.ownsRow.lt HRW.out.out k e).2
  omega
 have h8' : (nk == 8) = false := by simpa using h8
 have h9' : (nk == 9) = false := by simpa using h9
 go_wp2_with fail
 clear g0 g1 g2
 go_loopw [9, 10] (fun av iv wr => ∃ (i : Nat) (ava : Option Addr) (avn avc : Nat), av = .slice ava avn avc ∧ iv = .int .i64 i ∧ i ≤ A ∧ LI C W lb vL vO A j st v r s' i av wr) (fun _ iv _ => A - (RowKit.intOf iv).toNat)
 case atStart => exact ⟨0, _, _, _, rfl, rfl, Nat.zero_le _, HLI0.out⟩
 case round =>
  obtain ⟨i, ava, avn, avc, rfl, rfl, hiA, hLI⟩ := hrel
  clear HLI0
  obtain ⟨vI1, vO1, vl1, vs, hrow, hvs, hap, ht, ho, hst⟩ := hLI
  have HRow := hide hrow
  have HT := hide ht
  have HO := hide ho
  have HAp := hide hap
  clear hrow ht ho hap
  rcases hst with ⟨hij, hvs2, hRi⟩ | ⟨hij, hjl, c, hrc, hRc⟩
  ·have HRi := hide hRi
   have c8 := (hRi.box 8 _ rfl).1
   clear hRi
   by_cases hlt : i < A
   ·obtain ⟨B, rfl, hBw, hBl, vi, q1, q2⟩ := HKc.out i hlt
    have hc1 : wr.cell? ⟨B, i, none⟩ = some vi := (World.cell?_of_block (HT.out.block B hBl (fun hT => by have := HTl.out B hT; omega))).trans q1
    obtain ⟨ka, kn, kc, rfl⟩ : ∃ ka kn kc, vi = .slice ka kn kc := by obtain ⟨x, y, e, -⟩ := q2; exact ⟨_, _, _, e⟩
    clear q1
    by_cases hj2 : i < j
    ·have HCl := hide (HIk.out i hj2 wr vl1 vI1 vO1 _ HRi.out q2)
     go_wp2_with fail
     refine HCl.out.mono ?_
     rintro x w2 ⟨z, vI2, vO2, vl2, rfl, hz, hR2, ht2, ho2⟩
     obtain ⟨va3, vn3, vc3, w3, r3, hL3⟩ := li_step (A := A) (r := r) (s' := s') HRW.out HRow.out hvs HAp.out HT.out HO.out hR2 ht2 ho2 (by omega) (.inl ⟨hj2, rfl, rfl, hz _ rfl, hvs2⟩)
     have Hr3 := hide r3
     have HL3 := hide hL3
     clear hR2 ht2 ho2 r3 hL3 hz hc1 c8
     go_wp2_with (at_builtin; refine wpList_appG rfl (.tmp 72) (.tmp 74) _ rfl _ _ _ _ rfl rfl Hr3.out ?_)
     go_roundw
     case rel => exact ⟨i + 1, _, _, _, rfl, by go_num, by omega, HL3.out⟩
     case measure => simp [RowKit.intOf]; omega
    ·obtain rfl : i = j := by omega
     obtain ⟨c, hrc, hcall⟩ := HIj.out hlt
     have HCl := hide (hcall wr vl1 vI1 vO1 (.slice ka kn kc) HRi.out q2)
     clear hcall
     go_wp2_with fail
     refine HCl.out.mono ?_
     rintro x w2 ⟨z, vI2, vO2, vl2, rfl, hz, hR2, ht2, ho2⟩
     obtain ⟨va3, vn3, vc3, w3, r3, hL3⟩ := li_step (z := z) (v := v) (A := A) (r := r) (s' := s') HRW.out HRow.out hvs HAp.out HT.out HO.out hR2 ht2 ho2 (by omega) (.inr ⟨rfl, hlt, c, hrc, rfl, rfl⟩)
     have Hr3 := hide r3
     have HL3 := hide hL3
     clear hR2 ht2 ho2 r3 hL3 hz hc1 c8
     go_wp2_with (at_builtin; refine wpList_appG rfl (.tmp 72) (.tmp 74) _ rfl _ _ _ _ rfl rfl Hr3.out ?_)
     go_roundw
     case rel => exact ⟨i + 1, _, _, _, rfl, by go_num, by omega, HL3.out⟩
     case measure => simp [RowKit.intOf]; omega
   ·obtain rfl : i = A := by omega
    obtain rfl : i = j := by omega
    clear HIk HIj HKc
    have hcond : ¬ (i : Int) < (i : Int) := by omega
    have hrow2 := HRow.out
    rw [hvs2] at hrow2
    have HRow2 := hide hrow2
    clear hrow2 HRow hvs hvs2
    have HU := hide HRi.out.uu
    have hFb := HC.out.fu
    rcases HRest.out with ⟨h0, -⟩ | ⟨-, hu0, rfl, rfl⟩ | ⟨-, hu0, h4, hr, hs⟩ | ⟨-, hu0, h4, f, hf, hEc⟩
    ·exact absurd h0 (Nat.lt_irrefl _)
    ·go_wp2_with fail
     refine (spend0 HRi.out hu0).mono ?_
     rintro x w5 ⟨⟨u, rfl⟩, hR5, t5⟩
     have HFin := hide (exp_fin (z := 0) HBW.out (HT.out.next t5 (fun k hk => .inl (.inl hk))) HO.out (r := .out 2) hR5 (fun v hv => by cases hv))
     have y8 := (hR5.box 8 _ rfl).1
     clear hR5 t5 c8
     go_wp2_with fail
     go_ret
     exact HFin.out
    ·go_wp2_with fail
     refine (spend1 HRi.out hu0 hFb).mono ?_
     rintro x w5 ⟨⟨u, rfl⟩, hR5, t5⟩
     have HT5 := hide (HT.out.next t5 (fun k hk => .inl (.inl hk)))
     have HR5 := hide hR5
     have y8 := (hR5.box 8 _ rfl).1
     obtain ⟨y0, y1, y2⟩ := HGc.out w5 HT5.out
     have hPW : C.P < W.heap.size := Nat.lt_of_lt_of_le (TEx.lt HRS.out C.P (.inl rfl)).1 HBW.out.size
     have HRow5 := hide (own_notU HRow2.out t5 (fun k hk e => by have e : k = C.P := e; have := (World.ownsRow.lt HRow2.out k hk).1; omega))
     have hNS : ((st i).sp.l.map Prod.fst) = ((st 0).l.map Prod.fst) := by show ((st i).l.map Prod.fst) = _; rw [HNm.out i (Nat.le_refl _)]
     have HNS := hide hNS
     have HFin : Hid (∀ z vI2 vl2 X S2 r2, r2 = r → S2 = s' → Below w5.heap.size w5 X → RS C X (stR r2) false vl2 lb vL vI2 vO1 S2 → (∀ v, r2 = .val v → z = v) → ExP C w lb vL vO r s' (.returned (.int .i64 z)) X) := fun z vI2 vl2 X S2 r2 e1 e2 hX hRX hz => by
      subst e1 e2
      exact exp_fin HBW.out (HT5.out.of_below hX) HO.out hRX hz
     clear hR5 t5 c8 HRi HGc hNS
     have hkk : 1 ≤ nk ∧ nk ≤ 9 := kind_good HG.out
     have h4 : nk ≠ 4 := h4
     have hk6 : nk = 1 ∨ nk = 2 ∨ nk = 3 ∨ nk = 5 ∨ nk = 6 ∨ nk = 7 := by omega
     rcases hk6 with rfl | rfl | rfl | rfl | rfl | rfl
     ·have hw : wkN C.t ⟨1, nv, nm⟩ v (st i).sp = (.val nv, (st i).sp) := by simp [wkN]
      have HF := hide (HFin.out nv vI1 vl1 w5 (st i).sp (.val nv) (by rw [hr, hw]) (by rw [hs, hw]) (Below.refl _ _) HR5.out (fun v hv => by cases hv; rfl))
      clear hr hs hw
      go_wp2_with fail
      go_ret
      exact HF.out
     ·have hw : wkN C.t ⟨2, nv, nm⟩ v (st i).sp = (.val ((st i).sp.rd C.t nm), (st i).sp) := by simp [wkN]
      have HKv : Hid (nm ∈ (st i).sp.l.map Prod.fst ∨ (nm ∉ (st i).sp.l.map Prod.fst ∧ 0 ≤ globI C.t.globals nm)) := by
       rw [HNS.out]
       rcases node_var HKn.out rfl with h | ⟨h, h0⟩
       ·exact .inl h
       ·exact .inr ⟨h, by show 0 ≤ globI C.t.globals nm; have h0 : globI C.t.globals nm = 0 := h0; omega⟩
      go_wp2_with fail
      refine (find_any nm HR5.out HC.out (by rw [HNS.out]; exact HSc.out.1)).mono ?_
      rintro x w6 ⟨vv, rfl, hF, hb6⟩
      obtain ⟨bw, wn, rfl, hn0, hn1, hbl, hcell, -, -⟩ := find_word HR5.out HC.out hF (by rw [HNS.out]; exact HSc.out.1) HKv.out
      have hc6 := (hb6.cell (p := ⟨bw, 0, none⟩) hbl).trans hcell
      have HF := hide (HFin.out _ vI1 vl1 w6 (st i).sp (.val ((st i).sp.rd C.t nm)) (by rw [hr, hw]) (by rw [hs, hw]) hb6 (HR5.out.below hb6) (fun v hv => by cases hv; rfl))
      generalize (st i).sp.rd C.t nm = q at hc6 HF
      clear hr hs hw hcell hF hb6
      go_wp2_with fail
      go_ret
      exact HF.out
     ·obtain rfl : i = 1 := by have := HAr.out; simp [arity] at this; omega
      obtain ⟨hnn, hgp⟩ := node_arr HKn.out rfl
      have hlen : (argL 1 v).length = 1 := argL_len 1 v
      obtain ⟨ab, rfl, rfl, hab1, hab2, ha0⟩ := row_cell HRow5.out 0 (by omega)
      have ea : (argL 1 v)[0]'(by omega) = v 0 := by simp [argL]
      rw [ea] at ha0
      rw [hlen]
      have hav : (0 : Int) < ((1 : Nat) : Int) := by omega
      go_wp2_with fail
      refine (find_any nm HR5.out HC.out (by rw [HNS.out]; exact HSc.out.1)).mono ?_
      rintro x w6 ⟨vv, rfl, hF, hb6⟩
      obtain ⟨bw, rfl, hn0, hn1, hbl, hbm, hcs⟩ := find_arr HR5.out HC.out hF (by rw [HNS.out]; exact hnn) (by show 0 ≤ globI C.t.globals nm; have hgp : 0 < globI C.t.globals nm := hgp; omega)
      have ha6 := (hb6.cell (p := ⟨ab, 0, none⟩) hab2).trans ha0
      have hR6 := HR5.out.below hb6
      have HR6 := hide hR6
      have y8' := (hR6.box 8 _ rfl).1
      have z8' := (hR6.box 8 _ rfl).2
      clear hR6 hF
      have hw1 : (0 ≤ v 0 ∧ v 0 < ((st 1).sp.ws C.t nm).length) → wkN C.t ⟨3, nv, nm⟩ v (st 1).sp = (.val (((st 1).sp.ws C.t nm).getD (v 0).toNat 0), (st 1).sp) := fun h => by simp [wkN, h]
      have hw2 : ¬ (0 ≤ v 0 ∧ v 0 < ((st 1).sp.ws C.t nm).length) → wkN C.t ⟨3, nv, nm⟩ v (st 1).sp = (.out 3, (st 1).sp) := fun h => by
       unfold wkN
       rw [if_neg (by simp), if_neg (by simp), if_pos rfl, if_neg h]
      obtain ⟨wl, hwl⟩ : ∃ wl, wl = ((st 1).sp.ws C.t nm).length := ⟨_, rfl⟩
      rw [← hwl] at hn0 hn1 hcs hw1 hw2 ⊢
      generalize v 0 = v0 at ha6 hw1 hw2 ha0
      by_cases hin : 0 ≤ v0 ∧ v0 < wl
      ·obtain ⟨k, rfl⟩ : ∃ k : Nat, v0 = k := ⟨v0.toNat, by omega⟩
       have hkl : k < wl := by omega
       have hck := (hb6.cell (p := ⟨bw, k, none⟩) hbl).trans (hcs k hkl).1
       have HF := hide (HFin.out _ vI1 vl1 w6 (st 1).sp (.val (((st 1).sp.ws C.t nm).getD k 0)) (by rw [hr, hw1 hin]; simp) (by rw [hs, hw1 hin]) hb6 HR6.out (fun v hv => by cases hv; rfl))
       have hdec : decide ((0 : Int) ≤ (k : Int) ∧ (k : Int) ≤ (wl : Int) - 1) = true := decide_eq_true (by omega)
       generalize ((st 1).sp.ws C.t nm).getD k 0 = q at hck HF
       clear hr hs hw1 hw2 hcs hb6 ha0 hwl
       go_wp2_with fail
       refine (in_any _ _ _ _).mono ?_
       rintro x w7 ⟨rfl, hw7⟩
       rw [hw7, hdec]
       clear hw7
       go_wp2_with fail
       go_ret
       exact HF.out
      ·have HF := hide (HFin.out 0 vI1 vl1 (w6.setCell ⟨C.P, 8, none⟩ (.int .i64 3)) (st 1).sp (.out 3) (by rw [hr, hw2 hin]) (by rw [hs, hw2 hin]))
       have HRd := hide (HR6.out.dry 3)
       have HFo := hide (exp_fin (w' := w6.setCell ⟨C.P, 8, none⟩ (.int .i64 3)) (z := 0) (r := .out 3) HBW.out ((HT5.out.of_below hb6).setCell (p := ⟨C.P, 8, none⟩) (.inl rfl) _) HO.out HRd.out (fun v hv => by cases hv))
       have HFr : Hid (r = .out 3 ∧ s' = (st 1).sp) := ⟨by rw [hr, hw2 hin], by rw [hs, hw2 hin]⟩
       have hdec : decide ((0 : Int) ≤ v0 ∧ v0 ≤ (wl : Int) - 1) = false := decide_eq_false (by omega)
       clear hr hs hw1 hw2 hcs hb6 ha0 hwl HF
       go_wp2_with fail
       refine (in_any _ _ _ _).mono ?_
       rintro x w7 ⟨rfl, hw7⟩
       rw [hw7, hdec]
       clear hw7
       go_wp2_with fail
       go_ret
       rw [HFr.out.1, HFr.out.2]
       exact HFo.out
     ·obtain rfl : i = 0 := by have := HAr.out; simp [arity] at this; omega
      obtain ⟨Ia, Ic, hvI, hIl, hIm, hIc⟩ := HR5.out.inp
      have y4 := (HR5.out.box 4 _ rfl).1
      have z4 := (HR5.out.box 4 _ rfl).2
      subst hvI
      cases hin : (st 0).sp.i with
      | nil =>
       have hw : wkN C.t ⟨5, nv, nm⟩ v (st 0).sp = (.val 0, (st 0).sp) := by simp [wkN, hin]
       have HF := hide (HFin.out 0 _ vl1 w5 (st 0).sp (.val 0) (by rw [hr, hw]) (by rw [hs, hw]) (Below.refl _ _) HR5.out (fun v hv => by cases hv; rfl))
       rw [hin] at y4
       simp only [List.length_nil] at y4
       clear hr hs hw hIc
       go_wp2_with fail
       go_ret
       exact HF.out
      | cons q rst =>
       have hw : wkN C.t ⟨5, nv, nm⟩ v (st 0).sp = (.val q, { (st 0).sp with i := rst }) := by simp [wkN, hin]
       rw [hin] at y4 hIl hIc
       have hcut := icut_run Ia (q :: rst).length Ic (by simp) hIl
       obtain ⟨bI, oI, hIa, hcI⟩ := hIc (by simp)
       have hq0 : w5.cell? ⟨bI, oI, none⟩ = some (.int .i64 q) := by
        have h0 := hcI 0 (by simp)
        simp only [Nat.add_zero, List.getElem_cons_zero] at h0
        exact (HR5.out.bel.cell (p := ⟨bI, oI, none⟩) (World.block_lt_of_cell? _ _ h0)).trans h0
       have htl := InN.tail (w0 := C.w0) (a := Ia) (c := Ic) (x := q) (r := rst) (by have := HR5.out.inp; rw [hin] at this; exact this)
       obtain ⟨Ta, hTa⟩ : ∃ Ta, Ta = (if Ic = 1 then Ia else Ia.map (·.add (1 * 1))) := ⟨_, rfl⟩
       rw [← hTa] at hcut htl
       have hRn := HR5.out.boxed (st' := 0) (rt' := false) (vl' := vl1) (vI' := .slice Ta rst.length (Ic - 1)) (s' := { (st 0).sp with i := rst }) 4 (.slice Ta rst.length (Ic - 1)) rfl rfl rfl rfl htl ⟨HR5.out.ok.g, HR5.out.ok.l, fun x hx => HR5.out.ok.i x (by rw [hin]; exact List.mem_cons_of_mem _ hx)⟩ HR5.out.uu HR5.out.nn
       have HFo := hide (exp_fin (w' := w5.setCell ⟨C.P, 4, none⟩ (.slice Ta rst.length (Ic - 1))) (z := q) (r := .val q) HBW.out (HT5.out.setCell (p := ⟨C.P, 4, none⟩) (.inl rfl) _) HO.out hRn (fun v hv => by cases hv; rfl))
       have HFr : Hid (r = .val q ∧ s' = { (st 0).sp with i := rst }) := ⟨by rw [hr, hw], by rw [hs, hw]⟩
       obtain ⟨il, hil⟩ : ∃ il, il = (q :: rst).length := ⟨_, rfl⟩
       have hil0 : ((il : Nat) : Int) ≠ 0 := by rw [hil]; simp; omega
       have hil1 : 0 < il := by rw [hil]; simp
       have hil2 : il - 1 = rst.length := by rw [hil]; simp
       have hil3 : ((il : Int) == 0) = false := by simpa using hil0
       rw [← hil] at hcut y4
       rw [hil2] at hcut
       generalize rst.length = rl at hcut HFo
       subst hIa
       clear hr hs hw hIc hcI htl hRn hIl hil hil2 hTa
       go_wp2_with fail
       go_ret
       rw [HFr.out.1, HFr.out.2]
       exact HFo.out
     ·obtain rfl : i = 1 := by have := HAr.out; simp [arity] at this; omega
      have hlen : (argL 1 v).length = 1 := argL_len 1 v
      obtain ⟨ab, rfl, rfl, hab1, hab2, ha0⟩ := row_cell HRow5.out 0 (by omega)
      have ea : (argL 1 v)[0]'(by omega) = v 0 := by simp [argL]
      rw [ea] at ha0
      rw [hlen]
      have hw : wkN C.t ⟨6, nv, nm⟩ v (st 1).sp = (.val (unN nv (v 0)), (st 1).sp) := by simp [wkN]
      have hv0 : inB (v 0) := (HCh.out 1 (Nat.le_refl _)).2.2 0 (by omega)
      have hop : 0 ≤ nv ∧ nv ≤ 2 := by have := HNB.out; simp [nodeB] at this; omega
      have HUn := hide (fun X => unS_any nv (v 0) hop.1 hop.2 hv0 X)
      have HF := hide (fun X hX => HFin.out (unN nv (v 0)) vI1 vl1 X (st 1).sp (.val (unN nv (v 0))) (by rw [hr, hw]) (by rw [hs, hw]) hX (HR5.out.below hX) (fun v hv => by cases hv; rfl))
      generalize unN nv (v 0) = q at HUn HF
      generalize v 0 = v0 at ha0 HUn
      clear hr hs hw ea hv0
      go_wp2_with fail
      go_quiet ((go_at_call 45; exact Calls.quiet_of_same (HUn.out _)))
      go_wp2_with fail
      go_ret
      exact HF.out _ (below_drewN (Below.refl _ _) _)
     ·obtain rfl : i = 2 := by have := HAr.out; simp [arity] at this; omega
      have hlen : (argL 2 v).length = 2 := argL_len 2 v
      obtain ⟨ab, rfl, rfl, hab1, hab2, ha0⟩ := row_cell HRow5.out 0 (by omega)
      obtain ⟨ab', hab', -, -, -, ha1⟩ := row_cell HRow5.out 1 (by omega)
      simp only [Option.some.injEq, Addr.mk.injEq, and_true, true_and] at hab'
      subst hab'
      have ea : (argL 2 v)[0]'(by omega) = v 0 := by simp [argL]
      have eb : (argL 2 v)[1]'(by omega) = v 1 := by simp [argL]
      rw [ea] at ha0
      rw [eb] at ha1
      rw [hlen]
      have hw : wkN C.t ⟨7, nv, nm⟩ v (st 2).sp = (.val (apN nv (v 0) (v 1)), (st 2).sp) := by simp [wkN]
      have HAp2 := hide (fun X => ap_s nv (v 0) (v 1) X)
      have HF := hide (fun X hX => HFin.out (apN nv (v 0) (v 1)) vI1 vl1 X (st 2).sp (.val (apN nv (v 0) (v 1))) (by rw [hr, hw]) (by rw [hs, hw]) hX (HR5.out.below hX) (fun v hv => by cases hv; rfl))
      generalize apN nv (v 0) (v 1) = q at HAp2 HF
      generalize v 0 = v0 at ha0 HAp2
      generalize v 1 = v1 at ha1 HAp2
      clear hr hs hw ea eb
      go_wp2_with fail
      go_quiet ((go_at_call 46; exact Calls.quiet_of_same (HAp2.out _)))
      go_wp2_with fail
      go_ret
      exact HF.out _ (below_drewN (Below.refl _ _) _)
    ·have h4 : nk = 4 := h4
     subst h4
     have hfl : f < C.t.funcs.length := fnum_lt hf
     obtain ⟨f', hf', hpl⟩ := node_call HKn.out rfl
     have hf'' : fnum C.t.funcs nm = some f' := hf'
     have hff : f' = f := by have hf : fnum C.t.funcs nm = some f := hf; rw [hf''] at hf; exact Option.some.inj hf
     subst hff
     have harl : (argL i v).length = C.t.funcs[f'].params.length := by
      have := HAr.out
      simp [arity] at this
      rw [argL_len]
      have e1 : C.t.funcs.getD f' ⟨⟨#[]⟩, [], []⟩ = C.t.funcs[f'] := by simp [List.getD, hfl]
      rw [e1] at hpl
      have hpl : ((C.t.funcs[f'].params.length : Nat) : Int) = nv := hpl
      omega
     go_wp2_with fail
     refine (spend1 HRi.out hu0 hFb).mono ?_
     rintro x w5 ⟨⟨u, rfl⟩, hR5, t5⟩
     have HT5 := hide (HT.out.next t5 (fun k hk => .inl (.inl hk)))
     have HR5 := hide hR5
     have y8 := (hR5.box 8 _ rfl).1
     have p0 := (hR5.box 0 _ rfl).1
     have p1 := (hR5.box 1 _ rfl).1
     obtain ⟨y0, y1, y2⟩ := HGc.out w5 HT5.out
     have hPW : C.P < W.heap.size := Nat.lt_of_lt_of_le (TEx.lt HRS.out C.P (.inl rfl)).1 HBW.out.size
     have HRow5 := hide (own_notU HRow2.out t5 (fun k hk e => by have e : k = C.P := e; have := (World.ownsRow.lt HRow2.out k hk).1; omega))
     have hNS : ((st i).sp.l.map Prod.fst) = ((st 0).l.map Prod.fst) := by show ((st i).l.map Prod.fst) = _; rw [HNm.out i (Nat.le_refl _)]
     have hG5 : G < w5.heap.size := World.block_lt_of_cell? _ _ y0
     have hP5 : C.P < w5.heap.size := hR5.hi.1
     have HL3 : Hid (∀ X, Below w5.heap.size w5 X → Calls Tryd.prog 25 #[.agg #[C.vg, C.vf], .string nm] X fun e w' => e = .returned (.int .i64 (f' : Int)) ∧ Below X.heap.size X w') := fun X hX => by
      have hbX : Below C.w0.heap.size C.w0 X := HR5.out.bel.trans (hX.mono HR5.out.bel.size)
      have := l3func_any C.t.funcs C.vg C.vf nm X (by have := HC.out.sm.2; omega) (HC.out.fs.below hbX)
      rw [fnumI_some hf''] at this
      exact this
     have HCa : Hid (∀ X, Below w5.heap.size w5 X → Calls Tryd.prog 24 #[.pointer (some ⟨C.P, 0, none⟩), .int .i64 (f' : Int), .slice ava avn avc] X fun x w' => ExP C X lb vL vO1 r s' x w') := fun X hX => by
      refine HIC.out f' (argL i v) (st i).sp r s' hEc (by rw [hNS]; exact HSc.out) (fun _ => harl) (fun x hx => ?_) (by have h1 := HRi.out.nn.2.1; have h2 := sp_u hu0; have h3 : (st i).sp.n = (st i).n := rfl; rw [h3]; omega) X vl1 lb vL vI1 vO1 (.slice ava avn avc) W.heap.size (HR5.out.below hX) ⟨ownB HRow5.out hX, fun k hk => ?_⟩
      ·obtain ⟨k, hk, rfl⟩ := List.mem_map.1 hx
       exact (HCh.out i (Nat.le_refl _)).2.2 k (List.mem_range.1 hk)
      ·have h1 := (World.ownsRow.lt HRow5.out k hk).1
       have h2 := HRW.out.hi
       refine ⟨by omega, fun hm => ?_, fun e => ?_, HAp.out k hk⟩
       ·have := (HRW.out.rng k hm).2; omega
       ·have := (World.ownsRow.lt HRW.out.lrow k e).2; omega
     have HFin : Hid (∀ X x w', Below w5.heap.size w5 X → ExP C X lb vL vO1 r s' x w' → ExP C w lb vL vO r s' x w') := fun X x w' hX hE => by
      obtain ⟨z, vI3, vO3, vl3, rfl, hz, hR3, t3, o3⟩ := hE
      have hXs := (HT5.out.of_below hX).size
      refine exp_fin HBW.out ((HT5.out.of_below hX).next t3 (fun k hk => ?_)) (fun k hk => ?_) hR3 hz
      ·rcases hk with rfl | hk | hk
       ·exact .inl (.inl rfl)
       ·exact .inl (.inr (.inl hk))
       ·exact (HO.out k hk).imp (fun h => .inr (.inr h)) id
      ·rcases o3 k hk with h3 | h3
       ·exact HO.out k h3
       ·exact .inr (by omega)
     have HGn : Hid (¬ TEx C vO1 G) := fun hT => by
      rcases hT with h | h | h
      ·have := HTl.out G (.inl h); omega
      ·have := HTl.out G (.inr (.inl h)); omega
      ·rcases HO.out G h with h | h
       ·have := HTl.out G (.inr (.inr h)); omega
       ·omega
     clear hR5 t5 c8 HRi HGc hNS HIC harl hpl hf' hf hf'' hEc
     go_wp2_with fail
     go_region_held (fun X => X.cell? ⟨C.P, 0, none⟩ = some C.vg ∧ X.cell? ⟨C.P, 1, none⟩ = some C.vf ∧ X.cell? ⟨G, 2, none⟩ = some (.string nm)) (go_keep)
      (first
      | ((with_reducible refine Calls.mono (HL3.out _ ((Below.refl _ _).drew)) ?_); intro x w6 hx; obtain ⟨hxe, hb6⟩ := hx; subst hxe; have hB6 : Below w5.heap.size w5 w6 := (Below.refl _ _).drew.trans hb6; have q := And.intro ((hB6.cell (p := ⟨C.P, 0, none⟩) hP5).trans p0) (And.intro ((hB6.cell (p := ⟨C.P, 1, none⟩) hP5).trans p1) ((hB6.cell (p := ⟨G, 2, none⟩) hG5).trans y2)))
      | ((with_reducible refine Calls.mono (HCa.out w6 hB6) ?_); intro x w7 hx; have HXx := hide hx; obtain ⟨z7, vI7, vO7, vl7, hx7, -, hR7, t7, -⟩ := hx; subst hx7; have q7 := And.intro (hR7.box 0 _ rfl).1 (And.intro (hR7.box 1 _ rfl).1 ((World.cell?_of_block (a := ⟨G, 2, none⟩) (t7.block G (Nat.lt_of_lt_of_le hG5 hB6.size) HGn.out)).trans q.2.2))))
     have HFF := hide (HFin.out w6 _ w7 hB6 HXx.out)
     clear q q7 hR7 t7 HXx hB6 hb6
     go_wp2_with fail
     go_ret
     exact HFF.out
  ·have HRc := hide hRc
   have hcn := HOut.out c hrc
   have c8 := (hRc.box 8 _ rfl).1
   have hcn' : (c == 0) = false := by simpa using hcn
   have HFin : Hid (ExP C w lb vL vO r s' (.returned (.int .i64 0)) wr) := exp_fin HBW.out HT.out HO.out (by rw [hrc]; exact hRc) (fun v hv => by rw [hrc] at hv; cases hv)
   clear hRc hrc
   by_cases hlt : (i : Int) < (A : Int)
   ·go_wp2_with fail
    refine (spendD HRc.out hcn).mono ?_
    rintro x w5 ⟨⟨u, rfl⟩, hw5⟩
    rw [hw5]
    clear hw5
    go_wp2_with fail
    go_ret
    exact HFin.out
   ·go_wp2_with fail
    refine (spendD HRc.out hcn).mono ?_
    rintro x w5 ⟨⟨u, rfl⟩, hw5⟩
    rw [hw5]
    clear hw5
    go_wp2_with fail
    go_ret
    exact HFin.out
end
end Go.Proofs.YtolkpkklinoegaaDoor
