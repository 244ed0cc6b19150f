import Derived.Test.YtjhmgjimppflhaaGreatDoorY32
import Derived.Test.YtjhmgjimppflhaaGreatDoorY22
set_option linter.unusedSectionVars false
variable [Inhabited Go.Proofs.YtjhmgjimppflhaaGreatDoor.Pick]
namespace Go.Proofs.YtjhmgjimppflhaaGreatDoor
set_option linter.unusedVariables false
set_option linter.unusedSimpArgs false
set_option maxRecDepth 100000
set_option maxHeartbeats 16000000
section
open Go.RowKit
theorem look_numI {W : World} {b nn : Nat} {D : DataW Unit} {fs : List Fu} (hown : W.ownsMap Tryz.prog 9 (plainElem (H := Unit) Tryz.prog 2) b nn D) (hN : NumIs D fs) {s : ByteArray} (hs : s.size ≤ maxLen) {i : Nat} (h : fnum fs s = some i) :
  (Instr.lookup 62 (.map (some b)) (.string s) false).run Tryz.prog W = .ok (.int .i64 (i : Int)) W := by
 obtain ⟨c, hrun, hc, _⟩ := hown.lookup_int (Maps.string_keyed Tryz.underlying9) Tryz.underlying62 Tryz.underlying2 (Tryz.zeroValue2 _) (WideMaps.keyOf_string_mk Tryz.underlying9 hs)
 rw [hN.val s i h] at hc
 simp only [DataW.lit.injEq, Lit.int.injEq, true_and] at hc
 subst hc
 exact hrun
open Classical in
theorem circE_hit {t : Tr} {m i n : Nat} (h : (i = m ∨ Rch t m i) ∧ Rch t i i) : circE t m i (n + 1) = (7, (i : Int), -1) := by rw [circE, if_pos h]
open Classical in
theorem circE_step {t : Tr} {m i n : Nat} (h : ¬ ((i = m ∨ Rch t m i) ∧ Rch t i i)) : circE t m i (n + 1) = circE t m (i + 1) n := by rw [circE, if_neg h]
set_option maxRecDepth 100000 in
set_option maxHeartbeats 4000000 in
theorem circlesK {E : Ev} {w : World} {v : Value} {bt : Nat} {tk : List ByteArray} (h : Cs E w [] [] v bt tk (-1) (-1)) (m : Nat) (hm : fnum E.t.funcs mainS = some m) (hfl : E.t.funcs.length ≤ 1000) (hw : wfFs E.t.funcs) (hsm : ∀ f ∈ E.t.funcs, smallF f) :
  Calls Tryz.prog 63 #[.pointer (some ⟨E.C, 0, none⟩)] w fun e w' => e = .returned (errV (circE E.t m 0 E.t.funcs.length).1 (circE E.t m 0 E.t.funcs.length).2.1 (circE E.t m 0 E.t.funcs.length).2.2) ∧ Below E.w0.heap.size E.w0 w' := by
 have HC : Hid (Cs E w [] [] v bt tk (-1) (-1)) := h
 obtain ⟨RES, hRES⟩ : ∃ R, R = circE E.t m 0 E.t.funcs.length := ⟨_, rfl⟩
 rw [← hRES]
 have HRES : Hid (RES = circE E.t m 0 E.t.funcs.length) := hRES
 have hmn := fnum_lt hm
 have HMm : Hid (fnum E.t.funcs mainS = some m) := hm
 have hsM : mainS.size ≤ maxLen := by unfold maxLen; decide
 obtain ⟨af, cf, hvf, -⟩ := h.fun0.1
 obtain ⟨ag, cg, hvg, -⟩ := h.fun0.2
 have c1 := h.box.c1
 have c2 := h.box.c2
 have c3 := h.box.c3
 have hC := h.ltC
 rw [hvg] at c1
 rw [hvf] at c2
 have HFf : Hid (Funcs w (.slice af E.t.funcs.length cf) E.t.funcs) := by have := h.fun0.1.below h.base; rw [hvf] at this; exact this
 have HW : Hid (wfFs E.t.funcs) := hw
 have HSm : Hid (∀ f ∈ E.t.funcs, smallF f) := hsm
 clear h hRES hw hsm hm hvf hvg
 go_enter Tryz.func63, Tryz.ntmps63
 go_wp2_with fail
 refine (graph_any E.t.funcs _ _ _ hfl ⟨_, _, _, rfl⟩ HW.out HSm.out HFf.out).mono ?_
 rintro e w1 ⟨vgr, rfl, hgr, hb1⟩
 have HC1 : Hid (Cs E w1 [] [] v bt tk (-1) (-1)) := HC.out.below hb1
 have HGr : Hid (Graph w1 vgr E.t.funcs) := hgr
 have d3 := (hb1.cell (p := ⟨E.C, 3, none⟩) hC).trans c3
 have hlook : (Instr.lookup 62 (.map (some E.bn)) (.string ⟨#[109, 97, 105, 110]⟩) false).run Tryz.prog w1 = _ := look_numI HC1.out.own HC1.out.num hsM HMm.out
 obtain ⟨G, capG, rfl, -⟩ := hgr
 clear c1 c2 c3 hb1 HC HFf
 go_wp2_with fail
 refine (reached_any E.t _ m w1 hmn hfl HGr.out).mono ?_
 rintro e w2 ⟨v2, out, rfl, htr, hout, hb2⟩
 have HC2 : Hid (Cs E w2 [] [] v bt tk (-1) (-1)) := HC1.out.below hb2
 have HG2 : Hid (Graph w2 (.slice (some ⟨G, 0, none⟩) E.t.funcs.length capG) E.t.funcs) := HGr.out.below hb2
 have HTR : Hid (TRow w1.heap.size w2 v2 E.t.funcs.length out) := htr
 have HOut : Hid (∀ g, g ∈ out ↔ Rch E.t m g) := hout
 obtain ⟨g5, c5, rfl, -, hg5⟩ := htr.form (by omega)
 clear hb2 htr hout hlook d3 HC1 HGr hC
 go_wp2_with fail
 go_loopw [23] (fun j wr => ∃ (k : Nat), k ≤ E.t.funcs.length ∧ j = .int .i64 k ∧ RES = circE E.t m k (E.t.funcs.length - k) ∧ Below w2.heap.size w2 wr) (fun j _ => E.t.funcs.length - (RowKit.intOf j).toNat)
 case atStart => exact ⟨0, Nat.zero_le _, rfl, by simpa using HRES.out, Below.refl _ _⟩
 case round =>
  clear HRES
  obtain ⟨k, hk, rfl, hres, hB⟩ := hrel
  have HRES : Hid (RES = circE E.t m k (E.t.funcs.length - k)) := hres
  have hcs := HC2.out.below hB
  have HCr : Hid (Cs E wr [] [] v bt tk (-1) (-1)) := hcs
  have y5 := hcs.box.c5
  have f5 := hcs.box.fz 5
  have hC := hcs.ltC
  clear hres
  by_cases hlt : k < E.t.funcs.length
  ·have HR2 : Hid (RES = circE E.t m k ((E.t.funcs.length - (k + 1)) + 1)) := by
    show _ = _
    rw [HRES.out]
    congr 1
    omega
   have t0 := ((HTR.out.below hB).cell k hlt).1
   have HRe : Hid (Calls Tryz.prog 94 #[.slice (some ⟨G, 0, none⟩) E.t.funcs.length capG, .int .i64 (k : Int)] wr fun e w' => ∃ v out, e = .returned v ∧ TRow wr.heap.size w' v E.t.funcs.length out ∧ (∀ g, g ∈ out ↔ Rch E.t k g) ∧ Below wr.heap.size wr w') := reached_any E.t _ k wr hlt hfl (HG2.out.below hB)
   clear HRES hcs
   by_cases hkm : k = m
   ·subst hkm
    have b1 : ((k : Int) == (k : Int)) = true := by simp
    go_wp2_with fail
    refine HRe.out.mono ?_
    rintro e w3 ⟨v3, out3, rfl, htr3, ho3, hb3⟩
    obtain ⟨g3, c3, rfl, -, -⟩ := htr3.form (by omega)
    have t3 := (htr3.cell k hlt).1
    have hB3 : Below w2.heap.size w2 w3 := hB.trans (hb3.mono hB.size)
    have HC3 : Hid (Cs E w3 [] [] v bt tk (-1) (-1)) := HCr.out.below hb3
    have z5 := (hb3.cell (p := ⟨E.C, 5, none⟩) hC).trans y5
    have zf := (hb3.frozen (p := ⟨E.C, 5, none⟩) hC).trans f5
    clear htr3 t0 y5 f5 hb3
    by_cases ho : k ∈ out3
    ·have HE : Hid (RES = (7, (k : Int), -1)) := by show _ = _; rw [HR2.out]; exact circE_hit ⟨.inl rfl, (ho3 k).1 ho⟩
     rw [decide_eq_true ho] at t3
     have HC4 : Hid (Cs E (w3.setCell ⟨E.C, 5, none⟩ (.int .i64 (k : Int))) [] [] v bt tk (k : Int) (-1)) := HC3.out.put 5 _ (HC3.out.box.s5 (k : Int))
     clear ho ho3
     go_wp2_with fail
     refine (fault_any E.C 7 (k : Int) (-1) _ HC4.out.box.c5 HC4.out.box.c6).mono ?_
     rintro e w5 ⟨rfl, hw⟩
     rw [hw]
     clear hw
     go_wp2_with fail
     go_ret
     exact ⟨ret_val (by rw [HE.out]; rfl), HC4.out.base⟩
    ·have HN : Hid (RES = circE E.t k (k + 1) (E.t.funcs.length - (k + 1))) := by show _ = _; rw [HR2.out]; exact circE_step (fun h => ho ((ho3 k).2 h.2))
     rw [decide_eq_false ho] at t3
     clear ho ho3 z5 zf
     go_wp2_with fail
     go_roundw
     case rel => exact ⟨k + 1, by omega, by go_num, HN.out, hB3⟩
     case measure => simp [RowKit.intOf]; omega
   have b1 : ((k : Int) == (m : Int)) = false := by
    have : ¬ (k : Int) = (m : Int) := by omega
    simpa using this
   by_cases hko : k ∈ out
   ·have HA : Hid (k = m ∨ Rch E.t m k) := .inr ((HOut.out k).1 hko)
    rw [decide_eq_true hko] at t0
    clear hko
    go_wp2_with fail
    refine HRe.out.mono ?_
    rintro e w3 ⟨v3, out3, rfl, htr3, ho3, hb3⟩
    obtain ⟨g3, c3, rfl, -, -⟩ := htr3.form (by omega)
    have t3 := (htr3.cell k hlt).1
    have hB3 : Below w2.heap.size w2 w3 := hB.trans (hb3.mono hB.size)
    have HC3 : Hid (Cs E w3 [] [] v bt tk (-1) (-1)) := HCr.out.below hb3
    have z5 := (hb3.cell (p := ⟨E.C, 5, none⟩) hC).trans y5
    have zf := (hb3.frozen (p := ⟨E.C, 5, none⟩) hC).trans f5
    clear htr3 t0 y5 f5 hb3
    by_cases ho : k ∈ out3
    ·have HE : Hid (RES = (7, (k : Int), -1)) := by show _ = _; rw [HR2.out]; exact circE_hit ⟨HA.out, (ho3 k).1 ho⟩
     rw [decide_eq_true ho] at t3
     have HC4 : Hid (Cs E (w3.setCell ⟨E.C, 5, none⟩ (.int .i64 (k : Int))) [] [] v bt tk (k : Int) (-1)) := HC3.out.put 5 _ (HC3.out.box.s5 (k : Int))
     clear ho ho3
     go_wp2_with fail
     refine (fault_any E.C 7 (k : Int) (-1) _ HC4.out.box.c5 HC4.out.box.c6).mono ?_
     rintro e w5 ⟨rfl, hw⟩
     rw [hw]
     clear hw
     go_wp2_with fail
     go_ret
     exact ⟨ret_val (by rw [HE.out]; rfl), HC4.out.base⟩
    ·have HN : Hid (RES = circE E.t m (k + 1) (E.t.funcs.length - (k + 1))) := by show _ = _; rw [HR2.out]; exact circE_step (fun h => ho ((ho3 k).2 h.2))
     rw [decide_eq_false ho] at t3
     clear ho ho3 z5 zf
     go_wp2_with fail
     go_roundw
     case rel => exact ⟨k + 1, by omega, by go_num, HN.out, hB3⟩
     case measure => simp [RowKit.intOf]; omega
   ·have HN : Hid (RES = circE E.t m (k + 1) (E.t.funcs.length - (k + 1))) := by
     show _ = _
     rw [HR2.out]
     refine circE_step (fun h => ?_)
     rcases h.1 with h1 | h1
     ·exact hkm h1
     ·exact hko ((HOut.out k).2 h1)
    rw [decide_eq_false hko] at t0
    clear hko y5 f5
    go_wp2_with fail
    go_roundw
    case rel => exact ⟨k + 1, by omega, by go_num, HN.out, hB⟩
    case measure => simp [RowKit.intOf]; omega
  ·have HN : Hid (RES = (0, -1, -1)) := by
    show _ = _
    have e : E.t.funcs.length - k = 0 := by omega
    rw [HRES.out, e]
    rfl
   clear hcs y5 f5
   go_wp2_with fail
   go_ret
   exact ⟨ret_val (by rw [HN.out]; rfl), HCr.out.base⟩
end
end Go.Proofs.YtjhmgjimppflhaaGreatDoor
