import Derived.Test.YtjhmgjimppflhaaGreatDoorY33
import Derived.Laws.EntriesVeiled
import Derived.Deep.RegionHeld3
import Derived.Test.YtjhmgjimppflhaaGreatDoorY40
import Derived.Deep.QuietTactic
import Derived.BigQuiet
set_option linter.unusedSectionVars false
variable [Inhabited Go.Proofs.YtjhmgjimppflhaaGreatDoor.Pick]
namespace Go.Proofs.YtjhmgjimppflhaaGreatDoor
set_option linter.unusedVariables false
set_option linter.unusedSimpArgs false
set_option maxRecDepth 100000
set_option maxHeartbeats 16000000
section
open Go.RowKit
structure Okt (t : Tr) : Prop where
 gl : t.globals.length ≤ 50
 fl : t.funcs.length ≤ 50
 g : ∀ g ∈ t.globals, g.name.size ≤ 9223372036854775807 ∧ 0 ≤ g.size ∧ g.size ≤ 4000
 f : ∀ f ∈ t.funcs, FnOk f
 fn : ∀ f ∈ t.funcs, f.name.size ≤ 9223372036854775807
 sm : ∀ f ∈ t.funcs, smallF f
 wf : wfFs t.funcs
theorem okt {t : Tr} (h : treeB t = true) (hs : smallT t) (hw : wfT t) : Okt t := by
 unfold treeB at h
 simp only [Bool.and_eq_true, decide_eq_true_iff, List.all_eq_true] at h
 obtain ⟨h1, h2, h3, h4⟩ := h
 refine ⟨h1, h2, fun g hg => ?_, fun f hf => ?_, fun f hf => (hw.2.2 f hf).1, hs.2.2, hw.2⟩
 ·have := h3 g hg
  unfold globB at this
  simp only [Bool.and_eq_true, decide_eq_true_iff] at this
  exact ⟨hw.1.2 g hg, this.2.1, this.2.2⟩
 ·have := h4 f hf
  unfold funcB at this
  simp only [Bool.and_eq_true, decide_eq_true_iff] at this
  have hs1 := hs.2.2 f hf
  have hw1 := hw.2.2 f hf
  exact ⟨this.2.2.2.2.2, hs1.2.2, hw1.2.2.2, hw1.2.1.2, by omega, by omega⟩
def mainE (t : Tr) : Int := match fnum t.funcs mainS with | none => 3 | some m => if (t.funcs.getD m ⟨⟨#[]⟩, [], []⟩).params.length > 0 then 3 else 0
theorem names_top {t : Tr} (h : (topE t).1 ≠ 0) : namesE t = topE t := by
 unfold topE at h ⊢
 unfold namesE
 split
 ·rfl
 ·rename_i hd
  rw [if_neg hd] at h
  cases hq : dupF (t.globals.map (·.name)) 0 t.funcs with
  | some i => rfl
  | none => rw [hq] at h; simp at h
theorem names_main {t : Tr} (h : (topE t).1 = 0) : namesE t = (mainE t, -1, -1) := by
 unfold topE at h
 unfold namesE mainE
 split
 ·rename_i hd
  rw [if_pos hd] at h
  simp at h
 ·rename_i hd
  rw [if_neg hd] at h
  cases hq : dupF (t.globals.map (·.name)) 0 t.funcs with
  | some i => rw [hq] at h; simp at h
  | none =>
   simp only
   cases fnum t.funcs mainS with
   | none => rfl
   | some m => simp only; split <;> rfl
theorem main_zero {t : Tr} (h : mainE t = 0) : ∃ m, fnum t.funcs mainS = some m := by
 unfold mainE at h
 cases hm : fnum t.funcs mainS with
 | none => rw [hm] at h; simp at h
 | some m => exact ⟨m, rfl⟩
theorem check_tree {t : Tr} (h : treeB t = false) : checkE t = (1, -1, -1) := by unfold checkE; rw [if_pos h]
theorem check_names {t : Tr} (h : treeB t = true) (hn : (namesE t).1 ≠ 0) : checkE t = namesE t := by unfold checkE; rw [if_neg (by simp [h]), if_pos hn]
theorem check_bodies {t : Tr} (h : treeB t = true) (hn : (namesE t).1 = 0) (hb : (bodiesE t 0 t.funcs).1 ≠ 0) : checkE t = bodiesE t 0 t.funcs := by unfold checkE; rw [if_neg (by simp [h]), if_neg (by simp [hn]), if_pos hb]
theorem check_circ {t : Tr} (h : treeB t = true) (hn : (namesE t).1 = 0) (hb : (bodiesE t 0 t.funcs).1 = 0) {m : Nat} (hm : fnum t.funcs mainS = some m) : checkE t = circE t m 0 t.funcs.length := by unfold checkE; rw [if_neg (by simp [h]), if_neg (by simp [hn]), if_neg (by simp [hb]), hm]; rfl
theorem fidx0 (a b c d : Value) (W : World) : (Instr.index 118 (.agg #[a, b, c, d]) (.int .i64 0)).run Tryz.prog W = .ok a W := by kernel_rfl
theorem fidx1 (a b c d : Value) (W : World) : (Instr.index 118 (.agg #[a, b, c, d]) (.int .i64 1)).run Tryz.prog W = .ok b W := by kernel_rfl
theorem fidx2 (a b c d : Value) (W : World) : (Instr.index 118 (.agg #[a, b, c, d]) (.int .i64 2)).run Tryz.prog W = .ok c W := by kernel_rfl
theorem fidx3 (a b c d : Value) (W : World) : (Instr.index 118 (.agg #[a, b, c, d]) (.int .i64 3)).run Tryz.prog W = .ok d W := by kernel_rfl
set_option maxRecDepth 100000 in
set_option maxHeartbeats 4000000 in
theorem checkI_any (t : Tr) (vg vf : Value) (w : World) (hT : Tab w) (hs : smallT t) (hw : wfT t) (hg : Globs w vg t.globals) (hf : Funcs w vf t.funcs) :
  Calls Tryz.prog 29 #[.agg #[vg, vf]] w fun e w' => e = .returned (errV (checkE t).1 (checkE t).2.1 (checkE t).2.2) ∧ Below w.heap.size w w' := by
 obtain ⟨RES, hRES⟩ : ∃ R, R = checkE t := ⟨_, rfl⟩
 rw [← hRES]
 have HRES : Hid (RES = checkE t) := hRES
 have HT : Hid (Tab w) := hT
 have HS : Hid (smallT t) := hs
 have HW : Hid (wfT t) := hw
 have HG : Hid (Globs w vg t.globals) := hg
 have HF : Hid (Funcs w vf t.funcs) := hf
 obtain ⟨ag, cg, rfl, -⟩ := hg
 obtain ⟨af, cf, rfl, -⟩ := hf
 have hmf : ∀ (fn : Fn) (first cap : Array Value) (w : World), (Instr.makeFunc fn first cap).run Tryz.prog w = .ok (.func fn first cap) w := fun _ _ _ _ => rfl
 clear hT hs hw hRES
 go_enter Tryz.func29, Tryz.ntmps29
 go_wp2_with fail
 obtain ⟨W0, hW0⟩ : ∃ W0, W0 = (w.alloc (.cells #[.slice ag t.globals.length cg, .slice af t.funcs.length cf] 26)).alloc (.cells #[.slice none 0 0, .slice ag t.globals.length cg, .slice af t.funcs.length cf, .map none, .map none, .int .i64 (-1), .int .i64 (-1)] 115) := ⟨_, rfl⟩
 obtain ⟨T0, hT0⟩ : ∃ T0, T0 = w.heap.size := ⟨_, rfl⟩
 obtain ⟨C, hC⟩ : ∃ C, C = w.heap.size + 1 := ⟨_, rfl⟩
 have hA0 : Below w.heap.size w W0 := by rw [hW0]; exact ((Below.refl _ _).alloc (Nat.le_refl _) _).alloc (by simp) _
 have a0 : W0.cell? ⟨T0, 0, none⟩ = some (.slice ag t.globals.length cg) := by rw [hW0, hT0, World.cell?_alloc_lt _ _ ⟨w.heap.size, 0, none⟩ (by simp)]; simp
 have a1 : W0.cell? ⟨T0, 1, none⟩ = some (.slice af t.funcs.length cf) := by rw [hW0, hT0, World.cell?_alloc_lt _ _ ⟨w.heap.size, 1, none⟩ (by simp)]; simp
 have hat : ∀ o, W0.cell? ⟨C, o, none⟩ = (#[.slice none 0 0, .slice ag t.globals.length cg, .slice af t.funcs.length cf, .map none, .map none, .int .i64 (-1), .int .i64 (-1)] : Array Value)[o]? := fun o => by rw [hW0]; exact World.cell?_alloc_at _ _ _ _ (by simp [hC])
 have hfz : ∀ o, W0.frozen? ⟨C, o, none⟩ = false := fun o => by rw [hW0]; exact World.frozen?_alloc_at _ _ _ _ (by simp [hC])
 have HCell : Hid (∀ o, W0.cell? ⟨C, o, none⟩ = (#[.slice none 0 0, .slice ag t.globals.length cg, .slice af t.funcs.length cf, .map none, .map none, .int .i64 (-1), .int .i64 (-1)] : Array Value)[o]?) := hat
 have HFz : Hid (∀ o, W0.frozen? ⟨C, o, none⟩ = false) := hfz
 have hCs : C < W0.heap.size := by rw [hW0, hC]; simp
 have hTs : T0 < W0.heap.size := by rw [hW0, hT0]; simp; omega
 have hTC : T0 ≠ C := by omega
 have hwC : w.heap.size ≤ C := by omega
 rw [← hW0, ← hC, ← hT0]
 clear hW0 hC hT0 hat hfz
 refine (vtree_any t _ _ _ (HT.out.below HT.out.size hA0) HS.out (HG.out.below hA0) (HF.out.below hA0)).mono ?_
 rintro e w1 ⟨rfl, hb1⟩
 have b0 := (hb1.cell (p := ⟨T0, 0, none⟩) hTs).trans a0
 have b1 := (hb1.cell (p := ⟨T0, 1, none⟩) hTs).trans a1
 have hB1 : Below w.heap.size w w1 := hA0.trans (hb1.mono hA0.size)
 have HC1 : Hid (∀ o, w1.cell? ⟨C, o, none⟩ = (#[.slice none 0 0, .slice ag t.globals.length cg, .slice af t.funcs.length cf, .map none, .map none, .int .i64 (-1), .int .i64 (-1)] : Array Value)[o]?) := fun o => (hb1.cell (p := ⟨C, o, none⟩) hCs).trans (HCell.out o)
 have HF1 : Hid (∀ o, w1.frozen? ⟨C, o, none⟩ = false) := fun o => (hb1.frozen (p := ⟨C, o, none⟩) hCs).trans (HFz.out o)
 have hC1 : C < w1.heap.size := Nat.lt_of_lt_of_le hCs hb1.size
 have hT1 : T0 < w1.heap.size := Nat.lt_of_lt_of_le hTs hb1.size
 clear hb1 a0 a1 HCell HFz hCs hTs hA0
 cases htb : treeB t with
 | false =>
  have HE : Hid (RES = (1, -1, -1)) := HRES.out.trans (check_tree htb)
  clear htb
  go_wp2_with fail
  refine (fault_any C 1 (-1) (-1) _ (HC1.out 5) (HC1.out 6)).mono ?_
  rintro e w5 ⟨rfl, hw⟩
  rw [hw]
  clear hw
  go_wp2_with fail
  go_ret
  exact ⟨ret_val (by rw [HE.out]; rfl), hB1⟩
 | true =>
  have HB : Hid (treeB t = true) := htb
  have hok := okt htb HS.out HW.out
  have HOk : Hid (Okt t) := hok
  have hfl := hok.fl
  have hgl := hok.gl
  clear htb hok
  go_wp2_with fail
  refine (fnums_any t.funcs _ _ _ (by omega) HOk.out.wf (HF.out.below hB1)).mono ?_
  rintro e w2 ⟨bn, D, rfl, hbn, hown, hN, hb2⟩
  have hB2 : Below w.heap.size w w2 := hB1.trans (hb2.mono hB1.size)
  have HC2 : Hid (∀ o, w2.cell? ⟨C, o, none⟩ = (#[.slice none 0 0, .slice ag t.globals.length cg, .slice af t.funcs.length cf, .map none, .map none, .int .i64 (-1), .int .i64 (-1)] : Array Value)[o]?) := fun o => (hb2.cell (p := ⟨C, o, none⟩) hC1).trans (HC1.out o)
  have HF2 : Hid (∀ o, w2.frozen? ⟨C, o, none⟩ = false) := fun o => (hb2.frozen (p := ⟨C, o, none⟩) hC1).trans (HF1.out o)
  have hC2 : C < w2.heap.size := Nat.lt_of_lt_of_le hC1 hb2.size
  have hbC : C < bn := by omega
  have HOw : Hid (w2.ownsMap Tryz.prog 9 (plainElem (H := Unit) Tryz.prog 2) bn t.funcs.length D) := hown
  have HN : Hid (NumIs D t.funcs) := hN
  have q3 : w2.cell? ⟨C, 3, none⟩ = some (.map none) := HC2.out 3
  have qf := HF2.out 3
  clear hb2 hown hN hbn b0 b1 HC1 HF1
  have i0 := fidx0
  have i1 := fidx1
  have i2 := fidx2
  have i3 := fidx3
  go_wp2_with fail
  obtain ⟨W4, hW4⟩ : ∃ W4, W4 = (w2.setCell ⟨C, 3, none⟩ (.map (some bn))).alloc (.cells #[.func (.func 60) #[.pointer (some ⟨C, 0, none⟩)] #[], .func (.func 61) #[.pointer (some ⟨C, 0, none⟩)] #[], .func (.func 62) #[.pointer (some ⟨C, 0, none⟩)] #[], .func (.func 63) #[.pointer (some ⟨C, 0, none⟩)] #[]] 118) := ⟨_, rfl⟩
  have HCt : Hid (Ct0 w C bn t.funcs.length D t (.slice ag t.globals.length cg) (.slice af t.funcs.length cf) W4) := by
   have hcell : ∀ o, o ≠ 3 → W4.cell? ⟨C, o, none⟩ = w2.cell? ⟨C, o, none⟩ := fun o ho => by
    rw [hW4, World.cell?_alloc_lt _ _ ⟨C, o, none⟩ (by simpa using hC2)]
    exact World.cell?_setCell_other _ _ _ _ (off_ne (fun e => ho e.symm))
   have h3 : W4.cell? ⟨C, 3, none⟩ = some (.map (some bn)) := by
    rw [hW4, World.cell?_alloc_lt _ _ ⟨C, 3, none⟩ (by simpa using hC2)]
    exact World.cell?_setCell_same _ _ _ q3
   have hbw : Below w.heap.size w W4 := by
    rw [hW4]
    exact (hB2.setCell (p := ⟨C, 3, none⟩) hwC _).alloc (by have := hB2.size; simpa using this) _
   exact ⟨(hcell 0 (by decide)).trans (HC2.out 0), (hcell 1 (by decide)).trans (HC2.out 1), (hcell 2 (by decide)).trans (HC2.out 2), h3, ⟨_, (hcell 4 (by decide)).trans (HC2.out 4)⟩, (hcell 5 (by decide)).trans (HC2.out 5), (hcell 6 (by decide)).trans (HC2.out 6), fun o => by
    rw [hW4, World.frozen?_alloc_past _ _ _ (by simpa using hC2)]
    simpa using HF2.out o, hwC, hbw, ⟨HF.out, HG.out⟩, map_keep HOw.out (by rw [hW4, Below.heap_alloc _ _ _ (by have := HOw.out.lt; simpa using this), Below.heap_setCell _ _ _ bn (fun h => by simp at h; omega)]), HN.out, hbC⟩
  refine wp_loop_rounds 5 ?_
  rw [rounds_succ]
  go_wp2_with fail
  rw [← hW4]
  obtain ⟨E, hE⟩ : ∃ E : Ev, E = ⟨w, C, W4.heap.size + 1, bn, t.funcs.length, D, t, .slice ag t.globals.length cg, .slice af t.funcs.length cf, fun _ => none, fun _ => false, 0⟩ := ⟨_, rfl⟩
  have HTop : Hid (Calls Tryz.prog 60 #[.pointer (some ⟨C, 0, none⟩)] W4 fun e w' => e = .returned (errV (topE t).1 (topE t).2.1 (topE t).2.2) ∧
   ∃ gf' ng' v bt tk fn st, Cs { E with gf := gf', ng := ng' } w' [] [] v bt tk fn st ∧ ((topE t).1 = 0 → gf' = globF t.globals ∧ ng' ≤ 1000 ∧ fn = -1 ∧ st = -1)) := by
   subst hE
   exact topK (E := ⟨w, C, W4.heap.size + 1, bn, t.funcs.length, D, t, .slice ag t.globals.length cg, .slice af t.funcs.length cf, fun _ => none, fun _ => false, 0⟩) (w := W4) HCt.out rfl rfl rfl rfl (by show t.globals.length ≤ _; omega) (by show t.funcs.length ≤ _; omega) HOk.out.g HOk.out.fn
  have HEe : Hid (E = ⟨w, C, W4.heap.size + 1, bn, t.funcs.length, D, t, .slice ag t.globals.length cg, .slice af t.funcs.length cf, fun _ => none, fun _ => false, 0⟩) := hE
  clear hW4 hE HCt HC2 HF2 HOw q3 qf
  refine HTop.out.mono ?_
  rintro e w5 ⟨rfl, gf5, ng5, v5, bt5, tk5, fn5, st5, hc5, hi5⟩
  have hB5 : Below w.heap.size w w5 := by have := hc5.base; rw [HEe.out] at this; exact this
  by_cases hz : (topE t).1 = 0
  ·obtain ⟨rfl, hng5, rfl, rfl⟩ := hi5 hz
   rw [hz, errV_zero]
   have HZ : Hid ((topE t).1 = 0) := hz
   have HC5 : Hid (Cs { E with gf := globF t.globals, ng := ng5 } w5 [] [] v5 bt5 tk5 (-1) (-1)) := hc5
   clear hz hi5 hc5
   go_wp2_with fail
   rw [rounds_succ]
   go_wp2_with fail
   have HMa : Hid (Calls Tryz.prog 61 #[.pointer (some ⟨C, 0, none⟩)] w5 fun e w' => e = .returned (errV (mainE t) (-1) (-1)) ∧ Below w5.heap.size w5 w') := by
    have h := HC5.out
    have hb := h.box
    have hf := h.fun0.1.below h.base
    rw [HEe.out] at hb hf
    have h1 := h.own
    have h2 := h.num
    rw [HEe.out] at h1 h2
    exact mainK_any C bn t.funcs.length D t (-1) (-1) _ w5 hb.c2 hb.c3 hb.c5 hb.c6 h1 h2 (by omega) hf
   refine HMa.out.mono ?_
   rintro e w6 ⟨rfl, hb6⟩
   have HC6 : Hid (Cs { E with gf := globF t.globals, ng := ng5 } w6 [] [] v5 bt5 tk5 (-1) (-1)) := HC5.out.below hb6
   have hB6 : Below w.heap.size w w6 := hB5.trans (hb6.mono hB5.size)
   clear hb6 HC5 HMa hB5
   by_cases hz : mainE t = 0
   ·rw [hz, errV_zero]
    obtain ⟨m, hm⟩ := main_zero hz
    have HM : Hid (fnum t.funcs mainS = some m) := hm
    have HNz : Hid ((namesE t).1 = 0) := by show _ = _; rw [names_main HZ.out]; exact hz
    clear hz hm HZ
    go_wp2_with fail
    rw [rounds_succ]
    go_wp2_with fail
    have HFu : Hid (Calls Tryz.prog 62 #[.pointer (some ⟨C, 0, none⟩)] w6 fun e w' => e = .returned (errV (bodiesE t 0 t.funcs).1 (bodiesE t 0 t.funcs).2.1 (bodiesE t 0 t.funcs).2.2) ∧
   ∃ g' v' bt' tk' fn' st', Cs { E with gf := globF t.globals, ng := ng5, gp := g' } w' [] [] v' bt' tk' fn' st' ∧ ((bodiesE t 0 t.funcs).1 = 0 → fn' = -1 ∧ st' = -1)) := by
     have h := HC6.out
     have he := HEe.out
     subst he
     exact functionsK (E := { w0 := w, C := C, bg := W4.heap.size + 1, bn := bn, nn := t.funcs.length, D := D, t := t, vg := .slice ag t.globals.length cg, vf := .slice af t.funcs.length cf, gf := globF t.globals, gp := fun s => decide (0 ≤ globI t.globals s), ng := ng5 }) (g0 := fun _ => false) h hng5 rfl rfl (fun g hg => (HOk.out.g g hg).2.1) (by show t.funcs.length ≤ _; omega) HOk.out.f
    refine HFu.out.mono ?_
    rintro e w7 ⟨rfl, g7, v7, bt7, tk7, fn7, st7, hc7, hi7⟩
    have hB7 : Below w.heap.size w w7 := by have := hc7.base; rw [HEe.out] at this; exact this
    clear HC6 HFu hB6
    by_cases hz : (bodiesE t 0 t.funcs).1 = 0
    ·obtain ⟨rfl, rfl⟩ := hi7 hz
     rw [hz, errV_zero]
     have HC7 : Hid (Cs { E with gf := globF t.globals, ng := ng5, gp := g7 } w7 [] [] v7 bt7 tk7 (-1) (-1)) := hc7
     have HN7 : Hid (RES = circE t m 0 t.funcs.length) := HRES.out.trans (check_circ HB.out HNz.out hz HM.out)
     clear hz hi7 hc7 HRES
     go_wp2_with fail
     rw [rounds_succ]
     go_wp2_with fail
     have HCi : Hid (Calls Tryz.prog 63 #[.pointer (some ⟨C, 0, none⟩)] w7 fun e w' => e = .returned (errV (circE t m 0 t.funcs.length).1 (circE t m 0 t.funcs.length).2.1 (circE t m 0 t.funcs.length).2.2) ∧ Below w.heap.size w w') := by
      have h := HC7.out
      have he := HEe.out
      subst he
      exact circlesK h m HM.out (by show t.funcs.length ≤ _; omega) HOk.out.wf HOk.out.sm
     refine HCi.out.mono ?_
     rintro e w8 ⟨rfl, hB8⟩
     rw [← HN7.out]
     clear HC7 HCi hB7
     by_cases hz : RES.1 = 0
     ·rw [hz, errV_zero]
      have HZ8 : Hid (RES.1 = 0) := hz
      clear hz
      go_wp2_with fail
      rw [rounds_succ]
      go_wp2_with fail
      go_ret
      exact ⟨ret_val (by rw [HZ8.out]; rfl), hB8⟩
     ·rw [errV_ne hz]
      have HZ8 : Hid (RES.1 ≠ 0) := hz
      clear hz
      go_wp2_with fail
      go_ret
      exact ⟨ret_val (by rw [errV_ne HZ8.out]; rfl), hB8⟩
    ·have HNe : Hid (RES = bodiesE t 0 t.funcs) := HRES.out.trans (check_bodies HB.out HNz.out hz)
     have HZ2 : Hid ((bodiesE t 0 t.funcs).1 ≠ 0) := hz
     rw [errV_ne hz]
     generalize bodiesE t 0 t.funcs = z at HNe HZ2 ⊢
     clear hz hi7 hc7
     go_wp2_with fail
     go_ret
     exact ⟨ret_val (by rw [HNe.out, errV_ne HZ2.out]; rfl), hB7⟩
   ·have HNe : Hid (RES = (mainE t, -1, -1)) := by
     show _ = _
     have := names_main HZ.out
     rw [HRES.out, check_names HB.out (by rw [this]; exact hz), this]
    have HZ2 : Hid (mainE t ≠ 0) := hz
    rw [errV_ne hz]
    generalize mainE t = z at HNe HZ2 ⊢
    clear hz
    go_wp2_with fail
    go_ret
    exact ⟨ret_val (by rw [HNe.out, errV_ne HZ2.out]; rfl), hB6⟩
  ·have HNe : Hid (RES = topE t) := by
    show _ = _
    have := names_top hz
    rw [HRES.out, check_names HB.out (by rw [this]; exact hz), this]
   have HZ2 : Hid ((topE t).1 ≠ 0) := hz
   rw [errV_ne hz]
   generalize topE t = z at HNe HZ2 ⊢
   clear hz hi5 hc5
   go_wp2_with fail
   go_ret
   exact ⟨ret_val (by rw [HNe.out, errV_ne HZ2.out]; rfl), hB5⟩
end
section
open Go.RowKit
open Classical in
set_option maxRecDepth 100000 in
set_option maxHeartbeats 1000000 in
theorem sound_any (t : Tr) (vg vf : Value) (w : World) (hT : Tab w) (hs : smallT t) (hw : wfT t) (hg : Globs w vg t.globals) (hf : Funcs w vf t.funcs) :
  Calls Tryz.prog 36 #[.agg #[vg, vf]] w fun e w' => e = .returned (.bool (decide ((checkE t).1 = 0))) ∧ Below w.heap.size w w' := by
 obtain ⟨x, y, z, hX⟩ : ∃ x y z, checkE t = (x, y, z) := ⟨_, _, _, rfl⟩
 obtain ⟨ag, cg, rfl, -⟩ := id hg
 obtain ⟨af, cf, rfl, -⟩ := id hf
 have hA : ∀ o, Below w.heap.size w (w.alloc o) := fun o => (Below.refl _ _).alloc (Nat.le_refl _) o
 have HC : Hid (∀ W, Below w.heap.size w W → Calls Tryz.prog 29 #[.agg #[.slice ag t.globals.length cg, .slice af t.funcs.length cf]] W fun e w' => e = .returned (errV x y z) ∧ Below W.heap.size W w') := fun W hW => by
  have := checkI_any t _ _ W (hT.below hT.size hW) hs hw (hg.below hW) (hf.below hW)
  rw [hX] at this
  exact this
 rw [hX]
 clear hT hs hw hg hf hX
 simp only
 by_cases hz : x = 0
 ·subst hz
  rw [decide_eq_true rfl]
  go_enter Tryz.func36, Tryz.ntmps36
  go_wp2_with fail
  refine (HC.out _ (hA _)).mono ?_
  rintro e w1 ⟨rfl, hb1⟩
  rw [errV_zero]
  have hB1 := (hA _).trans (hb1.mono (hA _).size)
  clear hA HC hb1
  go_wp2_with fail
  go_ret
  exact ⟨rfl, hB1⟩
 ·rw [decide_eq_false hz]
  go_enter Tryz.func36, Tryz.ntmps36
  go_wp2_with fail
  refine (HC.out _ (hA _)).mono ?_
  rintro e w1 ⟨rfl, hb1⟩
  rw [errV_ne hz]
  have hB1 := (hA _).trans (hb1.mono (hA _).size)
  clear hA HC hb1
  go_wp2_with fail
  go_ret
  exact ⟨rfl, hB1⟩
end
section
open Go.RowKit
def resV (x : Int × Int × Int) : Value := .agg #[.int .i64 x.1, .int .i64 x.2.1, .int .i64 x.2.2]
theorem set3 {w : World} {b : Nat} {u0 u1 u2 y0 y1 y2 : Value} (h0 : w.cell? ⟨b, 0, none⟩ = some y0) (h1 : w.cell? ⟨b, 1, none⟩ = some y1) (h2 : w.cell? ⟨b, 2, none⟩ = some y2) :
  (((w.setCell ⟨b, 0, none⟩ u0).setCell ⟨b, 1, none⟩ u1).setCell ⟨b, 2, none⟩ u2).cell? ⟨b, 0, none⟩ = some u0 ∧ (((w.setCell ⟨b, 0, none⟩ u0).setCell ⟨b, 1, none⟩ u1).setCell ⟨b, 2, none⟩ u2).cell? ⟨b, 1, none⟩ = some u1 ∧ (((w.setCell ⟨b, 0, none⟩ u0).setCell ⟨b, 1, none⟩ u1).setCell ⟨b, 2, none⟩ u2).cell? ⟨b, 2, none⟩ = some u2 := by
 have e1 : (w.setCell ⟨b, 0, none⟩ u0).cell? ⟨b, 1, none⟩ = some y1 := (World.cell?_setCell_other _ _ _ _ (off_ne (by decide))).trans h1
 have e2 : ((w.setCell ⟨b, 0, none⟩ u0).setCell ⟨b, 1, none⟩ u1).cell? ⟨b, 2, none⟩ = some y2 := (World.cell?_setCell_other _ _ _ _ (off_ne (by decide))).trans ((World.cell?_setCell_other _ _ _ _ (off_ne (by decide))).trans h2)
 exact ⟨(World.cell?_setCell_other _ _ _ _ (off_ne (by decide))).trans ((World.cell?_setCell_other _ _ _ _ (off_ne (by decide))).trans (World.cell?_setCell_same _ _ _ h0)), (World.cell?_setCell_other _ _ _ _ (off_ne (by decide))).trans (World.cell?_setCell_same _ _ _ e1), World.cell?_setCell_same _ _ _ e2⟩
end
section
open Go.RowKit
def FRow (B : Nat) (w : World) (v : Value) (l : List Int) : Prop := w.ownsRow B 2 1 v l.length (l.map (Value.int .i64))
theorem FRow.below {B : Nat} {w w' : World} {v : Value} {l : List Int} (h : FRow B w v l) (hb : Below w.heap.size w w') : FRow B w' v l := ownb_below h hb
theorem FRow.shape {B : Nat} {w : World} {v : Value} {l : List Int} (h : FRow B w v l) : ∃ a c, v = .slice a l.length c := by
 rcases h.2 with ⟨rfl, hz⟩ | ⟨g, cap, cur, rfl, _⟩
 ·exact ⟨none, 0, by rw [hz]⟩
 ·exact ⟨_, cap, rfl⟩
theorem frow_lit (W : World) (B : Nat) (hB : B ≤ W.heap.size) : FRow B (W.alloc (.cells #[] 2)) (.slice (some ⟨W.heap.size, 0, none⟩) 0 0) [] := World.ownsRow_lit W #[] 0 hB (by decide) rfl
theorem wpList_appI {w : World} {ops : Array Oper} {rest : List Oper} {o : Oper} {a : Act} {Q : Exit → Act → World → Prop} (hgd : o.guard = none) (s x : Operand)
  (ho : o.op = .call { callee := .builtin .append, args := #[s, x], argTypes := #[31, 31] })
  (B : Nat) (v : Value) (l : List Int) (z : Int) (hs : a.eval s = v) (hown : FRow B w v l) (b c : Nat) (hx : a.eval x = .slice (some ⟨b, 0, none⟩) 1 c) (hz : w.cell? ⟨b, 0, none⟩ = some (.int .i64 z))
  (hm : l.length ≤ 1000000) (hbase : B ≤ w.heap.size)
  (h : ∀ v' w', FRow B w' v' (l ++ [z]) → w.grownBy w' v.ownBlock → wpList Tryz.prog ops Q rest (a.put o.dst v') w') : wpList Tryz.prog ops Q (o :: rest) a w := by
 obtain ⟨i1, hj, hy0, hy1, hy2⟩ := info_parts info_i64
 refine wpList_appF hgd s x _ ho B 2 i1 _ 1 8 Tryz.underlying31 hj hy0 hy1 hy2 rfl (by decide) v l.length (l.map (Value.int .i64)) hs hown ⟨b, 0, none⟩ 1 c [.int .i64 z] hx rfl ?_ (by simp [Value.oneCell']) (by omega) (by decide) hbase fun v' w' h1 h2 h3 => h v' w' ?_ h2
 ·intro j u hj
  have hl : j = 0 := by
   have := (List.getElem?_eq_some_iff.1 hj).1
   simp at this
   omega
  subst hl
  simp at hj
  rw [← hj]
  simpa [Addr.add] using hz
 ·unfold FRow
  rw [List.length_append, List.map_append]
  exact h1
theorem fld_size (b : Nat) (n z : Int) (W : World) : (Instr.field 66 (.agg #[.map (some b), .int .i64 n, .int .i64 z]) 2).run Tryz.prog W = .ok (.int .i64 z) W := by kernel_rfl
set_option maxRecDepth 100000 in
set_option maxHeartbeats 4000000 in
theorem framesI_any (t : Tr) (vg vf : Value) (w : World) (hT : Tab w) (hs : smallT t) (hw : wfT t) (hg : Globs w vg t.globals) (hf : Funcs w vf t.funcs) :
  Calls Tryz.prog 12 #[.agg #[vg, vf]] w fun e w' => ∃ v, e = .returned v ∧ FRow w.heap.size w' v (framesL t) ∧ Below w.heap.size w w' := by
 have HT : Hid (Tab w) := hT
 have hsz := hT.size
 have HSo : Hid (∀ W, Below w.heap.size w W → Calls Tryz.prog 36 #[.agg #[vg, vf]] W fun e w' => e = .returned (.bool (decide ((checkE t).1 = 0))) ∧ Below W.heap.size W w') := fun W hW => sound_any t vg vf W (hT.below hT.size hW) hs hw (hg.below hW) (hf.below hW)
 have HOk : Hid ((checkE t).1 = 0 → t.funcs.length ≤ 50 ∧ ∀ f ∈ t.funcs, FrOk f) := fun h => frOk h hw
 obtain ⟨ag, cg, rfl, -⟩ := hg
 obtain ⟨af, cf, rfl, -, -, hfc⟩ := hf
 have HFC : Hid (0 < t.funcs.length → ∃ b off, af = some ⟨b, off, none⟩ ∧ FuncsC w b off t.funcs) := hfc
 clear hT hs hw hfc
 obtain ⟨W0, hW0⟩ : ∃ W0, W0 = w.alloc (.cells #[.slice ag t.globals.length cg, .slice af t.funcs.length cf] 26) := ⟨_, rfl⟩
 have hA0 : Below w.heap.size w W0 := by rw [hW0]; exact (Below.refl _ _).alloc (Nat.le_refl _) _
 have hs0 : W0.heap.size = w.heap.size + 1 := by rw [hW0]; simp
 have hA1 : Below w.heap.size w (W0.alloc (.cells #[] 2)) := hA0.alloc hA0.size _
 have HR0 : Hid (FRow w.heap.size (W0.alloc (.cells #[] 2)) (.slice (some ⟨w.heap.size + 1, 0, none⟩) 0 0) []) := by
  have := frow_lit W0 w.heap.size hA0.size
  rw [hs0] at this
  exact this
 have HBx : Hid (∀ W, Below (w.heap.size + 1) W0 W → W.cell? ⟨w.heap.size, 0, none⟩ = some (.slice ag t.globals.length cg) ∧ W.cell? ⟨w.heap.size, 1, none⟩ = some (.slice af t.funcs.length cf)) := fun W hW => by
  rw [hW0] at hW
  exact box2 hW
 have hA2 : Below (w.heap.size + 1) W0 (W0.alloc (.cells #[] 2)) := (Below.refl _ _).alloc (by omega) _
 have HW0 : Hid (W0 = w.alloc (.cells #[.slice ag t.globals.length cg, .slice af t.funcs.length cf] 26)) := hW0
 clear hW0 hA0
 go_enter Tryz.func12, Tryz.ntmps12
 go_wp2_with fail
 rw [← HW0.out]
 refine (HSo.out _ hA1).mono ?_
 rintro e w1 ⟨rfl, hb1⟩
 have hB1 := hA1.trans (hb1.mono hA1.size)
 have HR1 : Hid (FRow w.heap.size w1 (.slice (some ⟨w.heap.size + 1, 0, none⟩) 0 0) []) := HR0.out.below hb1
 obtain ⟨x0, x1⟩ := HBx.out w1 (hA2.trans (hb1.mono (by have := hA2.size; omega)))
 clear hA1 hA2 hb1 HR0 HSo HBx HW0
 by_cases hz : (checkE t).1 = 0
 ·obtain ⟨hfl, hfo⟩ := HOk.out hz
  have HFo : Hid (∀ f ∈ t.funcs, FrOk f) := hfo
  have HRes : Hid (framesL t = t.funcs.map frameSz) := framesL_yes hz
  rw [decide_eq_true hz]
  clear hz hfo HOk
  go_wp2_with fail
  go_loopw [3, 14] (fun v i wr => ∃ k : Nat, k ≤ t.funcs.length ∧ i = .int .i64 k ∧ FRow w.heap.size wr v ((t.funcs.take k).map frameSz) ∧ Below w.heap.size w wr) (fun _ i _ => t.funcs.length - (RowKit.intOf i).toNat)
  case atStart => exact ⟨0, Nat.zero_le _, rfl, HR1.out, hB1⟩
  case round =>
   clear HR1 hB1 x0 x1
   obtain ⟨k, hk, rfl, hR, hB⟩ := hrel
   by_cases hlt : k < t.funcs.length
   ·obtain ⟨b, off, rfl, hc⟩ := HFC.out (by omega)
    obtain ⟨vp, vb, ⟨d0, d1, d2⟩, hp, hb⟩ := (hc.below hB) k hlt
    have hok := HFo.out _ (List.getElem_mem hlt)
    have HF : Hid (∀ W, Below wr.heap.size wr W → Calls Tryz.prog 37 #[.agg #[.string t.funcs[k].name, vp, vb]] W fun e w' => ∃ b N, e = .returned (.agg #[.map (some b), .int .i64 N, .int .i64 (frameSz t.funcs[k])]) ∧ Below W.heap.size W w') := fun W hW => (frameOf_any t.funcs[k] vp vb W (HT.out.below hsz (hB.trans (hW.mono hB.size))) (hp.below hW) (hb.below hW) hok.st hok.nd hok.pl (by have := hok.bl; omega) hok.sz).mono (by rintro e w' ⟨b, rfl, h⟩; exact ⟨b, _, rfl, h⟩)
    have HN : Hid ((t.funcs.take (k + 1)).map frameSz = (t.funcs.take k).map frameSz ++ [frameSz t.funcs[k]]) := by show _ = _; rw [List.take_succ_eq_append_getElem hlt, List.map_append]; rfl
    obtain ⟨ap, cp, rfl, -⟩ := hp
    obtain ⟨ab, cb, rfl, -⟩ := hb
    clear hc hok
    generalize frameSz t.funcs[k] = F at HF HN
    generalize t.funcs[k].params.length = lp at d1 HF
    generalize t.funcs[k].body.length = lb at d2 HF
    generalize t.funcs[k].name = nm at d0 HF
    have hll : ((t.funcs.take k).map frameSz).length ≤ 1000 := by simp; omega
    generalize (t.funcs.take k).map frameSz = l at hR HN hll
    obtain ⟨av, cv, rfl⟩ := hR.shape
    have hA : ∀ o, Below wr.heap.size wr (wr.alloc o) := fun o => (Below.refl _ _).alloc (Nat.le_refl _) o
    have HR : Hid (FRow w.heap.size wr (.slice av l.length cv) l) := hR
    clear hR
    go_wp2_with fail
    refine (HF.out _ (hA _)).mono ?_
    rintro e w2 ⟨bm, NN, rfl, hb2⟩
    have hb2' := (hA _).trans (hb2.mono (hA _).size)
    have hB2 : Below w.heap.size w w2 := hB.trans (hb2'.mono hB.size)
    have HR2 : Hid (FRow w.heap.size (w2.alloc (.cells #[.int .i64 F] 2)) (.slice av l.length cv) l) := (HR.out.below hb2').below ((Below.refl _ _).alloc (Nat.le_refl _) _)
    have hz : (w2.alloc (.cells #[.int .i64 F] 2)).cell? ⟨w2.heap.size, 0, none⟩ = some (.int .i64 F) := by simp
    have hsz2 := hB2.size
    have hfd := fld_size bm NN F
    clear hb2 hb2' HF d0 d1 d2 hA HR hB
    go_wp2_with (at_builtin; refine wpList_appI rfl _ _ rfl w.heap.size _ l F rfl HR2.out w2.heap.size 1 rfl hz (by omega) (by simp; omega) ?_)
    intro v3 w3 hr3 hg3
    have hB3 : Below w.heap.size w w3 := (hB2.alloc hsz2 _).grown hg3 (by simp; omega) (fun g hg => (World.ownsRow.lt HR2.out g hg).1)
    rw [← HN.out] at hr3
    have HR3 : Hid (FRow w.heap.size w3 v3 ((t.funcs.take (k + 1)).map frameSz)) := hr3
    clear hr3 hg3 hz HR2 HN hB2 hfd
    go_wp2_with fail
    go_roundw
    case rel => exact ⟨k + 1, by omega, by go_num, HR3.out, hB3⟩
    case measure => simp [RowKit.intOf]; omega
   ·obtain rfl : k = t.funcs.length := by omega
    rw [List.take_length, ← HRes.out] at hR
    obtain ⟨av, cv, rfl⟩ := hR.shape
    have HR : Hid (FRow w.heap.size wr (.slice av (framesL t).length cv) (framesL t)) := hR
    clear hR
    go_wp2_with fail
    go_ret
    exact ⟨_, rfl, HR.out, hB⟩
 ·have HRes : Hid (framesL t = []) := framesL_no hz
  rw [decide_eq_false hz]
  clear hz HOk
  go_wp2_with fail
  go_ret
  exact ⟨_, rfl, by rw [HRes.out]; exact HR1.out, hB1⟩
end
section
open Go.RowKit
theorem two_boxC {w W1 : World} {x0 x1 : Value} (h : W1 = (w.alloc (.cells #[x0, x1] 26)).alloc (.cells #[.int .i64 0, .int .i64 0, .int .i64 0] 29)) :
  ∀ W, Below (w.heap.size + 2) W1 W → (W.cell? ⟨w.heap.size, 0, none⟩ = some x0 ∧ W.cell? ⟨w.heap.size, 1, none⟩ = some x1) ∧ (W.cell? ⟨w.heap.size + 1, 0, none⟩ = some (.int .i64 0) ∧ W.cell? ⟨w.heap.size + 1, 1, none⟩ = some (.int .i64 0) ∧ W.cell? ⟨w.heap.size + 1, 2, none⟩ = some (.int .i64 0)) ∧ (∀ o, W.frozen? ⟨w.heap.size + 1, o, none⟩ = false) ∧ Below w.heap.size w W ∧ w.heap.size + 2 ≤ W.heap.size := by
 intro W hW
 have hA : Below w.heap.size w W1 := by rw [h]; exact ((Below.refl _ _).alloc (Nat.le_refl _) _).alloc (by simp) _
 have hs : W1.heap.size = w.heap.size + 2 := by rw [h]; simp
 have c : ∀ o, W.cell? ⟨w.heap.size + 1, o, none⟩ = (#[.int .i64 0, .int .i64 0, .int .i64 0] : Array Value)[o]? := fun o => (hW.cell (p := ⟨w.heap.size + 1, o, none⟩) (by simp)).trans (by rw [h]; exact World.cell?_alloc_at _ _ _ _ (by simp))
 have d : ∀ o, W.cell? ⟨w.heap.size, o, none⟩ = (#[x0, x1] : Array Value)[o]? := fun o => (hW.cell (p := ⟨w.heap.size, o, none⟩) (by simp)).trans (by rw [h, World.cell?_alloc_lt _ _ ⟨w.heap.size, o, none⟩ (by simp)]; exact World.cell?_alloc_at _ _ _ _ rfl)
 refine ⟨⟨d 0, d 1⟩, ⟨c 0, c 1, c 2⟩, fun o => ?_, hA.trans (hW.mono (by omega)), by have := hW.size; omega⟩
 refine (hW.frozen (p := ⟨w.heap.size + 1, o, none⟩) (by simp)).trans ?_
 rw [h]
 exact World.frozen?_alloc_at _ _ _ _ (by simp)
set_option maxRecDepth 100000 in
set_option maxHeartbeats 4000000 in
theorem l3names_any (t : Tr) (vg vf : Value) (w : World) (hgl : t.globals.length ≤ 1000) (hfl : t.funcs.length ≤ 1000) (hg : Globs w vg t.globals) (hf : Funcs w vf t.funcs) :
  Calls Tryz.prog 23 #[.agg #[vg, vf]] w fun e w' => e = .returned (resV (namesE t)) ∧ Below w.heap.size w w' := by
 obtain ⟨RES, hRES⟩ : ∃ R, R = namesE t := ⟨_, rfl⟩
 rw [← hRES]
 have HRES : Hid (RES = namesE t) := hRES
 have HF : Hid (Funcs w vf t.funcs) := hf
 obtain ⟨ag, cg, rfl, -, -, hgc⟩ := hg
 obtain ⟨af, cf, rfl, -, -, hfc⟩ := hf
 have HGC : Hid (0 < t.globals.length → ∃ b off, ag = some ⟨b, off, none⟩ ∧ GlobsC w b off t.globals) := hgc
 have HFC : Hid (0 < t.funcs.length → ∃ b off, af = some ⟨b, off, none⟩ ∧ FuncsC w b off t.funcs) := hfc
 obtain ⟨i0, hi, hz0, hz1, hz2⟩ := info_parts info_str
 obtain ⟨W1, hW1⟩ : ∃ W1, W1 = (w.alloc (.cells #[.slice ag t.globals.length cg, .slice af t.funcs.length cf] 26)).alloc (.cells #[.int .i64 0, .int .i64 0, .int .i64 0] 29) := ⟨_, rfl⟩
 have HBx : Hid (∀ W, Below (w.heap.size + 2) W1 W → (W.cell? ⟨w.heap.size, 0, none⟩ = some (.slice ag t.globals.length cg) ∧ W.cell? ⟨w.heap.size, 1, none⟩ = some (.slice af t.funcs.length cf)) ∧ (W.cell? ⟨w.heap.size + 1, 0, none⟩ = some (.int .i64 0) ∧ W.cell? ⟨w.heap.size + 1, 1, none⟩ = some (.int .i64 0) ∧ W.cell? ⟨w.heap.size + 1, 2, none⟩ = some (.int .i64 0)) ∧ (∀ o, W.frozen? ⟨w.heap.size + 1, o, none⟩ = false) ∧ Below w.heap.size w W ∧ w.heap.size + 2 ≤ W.heap.size) := two_boxC hW1
 have hs1 : W1.heap.size = w.heap.size + 2 := by rw [hW1]; simp
 have HR0 : Hid (SRow (w.heap.size + 2) (W1.alloc (.cells #[] 9)) (.slice (some ⟨w.heap.size + 1 + 1, 0, none⟩) 0 0) []) := by
  have := srow_lit W1 (w.heap.size + 2) (by omega)
  rw [hs1] at this
  exact this
 have HB0 : Hid (Below (w.heap.size + 2) W1 (W1.alloc (.cells #[] 9))) := (Below.refl _ _).alloc (by omega) _
 clear hRES hgc hfc
 go_enter Tryz.func23, Tryz.ntmps23
 go_wp2_with fail
 rw [← hW1]
 clear hW1 hs1
 go_loopw [3, 4] (fun sv i wr => ∃ (k : Nat), k ≤ t.globals.length ∧ i = .int .i64 k ∧ SRow (w.heap.size + 2) wr sv ((t.globals.take k).map (·.name)) ∧ dupG [] t.globals = dupG ((t.globals.take k).map (·.name)) (t.globals.drop k) ∧ Below (w.heap.size + 2) W1 wr) (fun _ i _ => t.globals.length - (RowKit.intOf i).toNat)
 case atStart => exact ⟨0, Nat.zero_le _, rfl, by simpa using HR0.out, by simp, HB0.out⟩
 case round =>
  clear HR0 HB0
  obtain ⟨k, hk, rfl, hR, hd, hB⟩ := hrel
  obtain ⟨a3, c3, rfl⟩ := hR.shape
  have HR : Hid (SRow (w.heap.size + 2) wr (.slice a3 ((t.globals.take k).map (·.name)).length c3) ((t.globals.take k).map (·.name))) := hR
  have HD : Hid (dupG [] t.globals = dupG ((t.globals.take k).map (·.name)) (t.globals.drop k)) := hd
  obtain ⟨⟨x0, x1⟩, ⟨r0, r1, r2⟩, rz, hBw, hsz⟩ := HBx.out wr hB
  have z0 := rz 0
  have z1 := rz 1
  have z2 := rz 2
  have hle : ((t.globals.take k).map (·.name)).length = k := by simp; omega
  rw [hle] at HR ⊢
  clear hR hd rz
  by_cases hlt : k < t.globals.length
  ·obtain ⟨b, off, rfl, hc⟩ := HGC.out (by omega)
   obtain ⟨c0, -⟩ := (hc.below hBw) k hlt
   have hlb : b < wr.heap.size := World.block_lt_of_cell? _ _ c0
   have HD2 : Hid (dupG [] t.globals = dupG ((t.globals.take k).map (·.name)) (t.globals[k] :: t.globals.drop (k + 1))) := by show _ = _; rw [HD.out, drop_cons_ _ _ hlt]
   have HTk : Hid (t.globals.take (k + 1) = t.globals.take k ++ [t.globals[k]]) := take_succ _ _ hlt
   have HSt : Hid (Strs wr (.slice a3 k c3) ((t.globals.take k).map (·.name))) := HR.out.strs (by rw [hle]; omega)
   clear hc HD
   generalize t.globals[k] = p at c0 HD2 HTk
   generalize hsn : (t.globals.take k).map (·.name) = seen at HR HD2 HSt hle
   have HSn : Hid ((t.globals.take k).map (·.name) = seen) := hsn
   clear hsn
   have HIn : Hid (Calls Tryz.prog 51 #[.slice a3 k c3, .string p.name] wr fun e w' => e = .returned (.bool (inS seen p.name)) ∧ Below wr.heap.size wr w') := l3in_any _ _ p.name wr (by rw [hle]; omega) HSt.out
   go_wp2_with fail
   refine HIn.out.mono ?_
   rintro e w2 ⟨rfl, hb2⟩
   have hB2 : Below (w.heap.size + 2) W1 w2 := hB.trans (hb2.mono hsz)
   have d0 := (hb2.cell (p := ⟨b, off + k * 2, none⟩) hlb).trans c0
   have HR2 : Hid (SRow (w.heap.size + 2) w2 (.slice a3 k c3) seen) := HR.out.below hb2
   clear x0 x1 r0 r1 r2 z0 z1 z2 c0 hB hBw hb2 HIn HSt HR
   obtain ⟨⟨x0, x1⟩, ⟨r0, r1, r2⟩, rz, hBw, hsz2⟩ := HBx.out w2 hB2
   have z0 := rz 0
   have z1 := rz 1
   have z2 := rz 2
   clear rz
   cases hx : inS seen p.name with
   | true =>
    have HE : Hid (RES = (2, -1, -1)) := by
     show _ = _
     rw [HRES.out]
     unfold namesE
     rw [if_pos (by rw [HD2.out]; exact dupG_hit hx)]
    clear hx
    go_wp2_with fail
    obtain ⟨t0, t1, t2⟩ := set3 (u0 := .int .i64 2) (u1 := .int .i64 (-1)) (u2 := .int .i64 (-1)) r0 r1 r2
    refine bodyPost_ret (v := .agg #[.int .i64 2, .int .i64 (-1), .int .i64 (-1)]) (by simp [results, Tryz.results23, go_sem, t0, t1, t2]) rfl ⟨ret_val (by rw [HE.out]; rfl), ?_⟩
    exact ((hBw.setCell (p := ⟨w.heap.size + 1, 0, none⟩) (by simp) _).setCell (p := ⟨w.heap.size + 1, 1, none⟩) (by simp) _).setCell (p := ⟨w.heap.size + 1, 2, none⟩) (by simp) _
   | false =>
    have HDn : Hid (dupG [] t.globals = dupG ((t.globals.take (k + 1)).map (·.name)) (t.globals.drop (k + 1))) := by show _ = _; rw [HD2.out, dupG_step hx, HTk.out, ← HSn.out]; simp
    have HNn : Hid (seen ++ [p.name] = (t.globals.take (k + 1)).map (·.name)) := by show _ = _; rw [HTk.out, ← HSn.out]; simp
    clear hx
    go_wp2_with (at_builtin; refine wpList_appF rfl _ _ _ rfl (w.heap.size + 2) 9 i0 _ 1 16 Tryz.underlying58 hi hz0 hz1 hz2 rfl (by decide) _ k (seen.map Value.string) rfl (by have := HR2.out.below ((Below.refl _ _).alloc (Nat.le_refl _) (.cells #[.string p.name] 9)); unfold SRow at this; rw [hle] at this; exact this) ⟨w2.heap.size, 0, none⟩ 1 1 [.string p.name] rfl rfl (cell_one_new _ _ _) (by simp [Value.oneCell']) (by omega) (by decide) (by simp; omega) ?_)
    intro v9 w9 ho9 hg9 hf9
    have HR9 : Hid (SRow (w.heap.size + 2) w9 v9 ((t.globals.take (k + 1)).map (·.name))) := by
     show World.ownsRow _ _ _ _ _ _ _
     rw [← HNn.out, List.length_append, hle, List.map_append]
     exact ho9
    have hB9 : Below (w.heap.size + 2) W1 w9 := (hB2.alloc hsz2 _).grown hg9 (by simp; omega) (fun g hg => (World.ownsRow.lt HR2.out g hg).1)
    obtain ⟨a9, c9, rfl⟩ := HR9.out.shape
    have hle9 : ((t.globals.take (k + 1)).map (·.name)).length = k + 1 := by simp; omega
    rw [hle9] at HR9 ⊢
    clear ho9 hg9 hf9 d0 x0 x1 r0 r1 r2 z0 z1 z2
    go_wp2_with fail
    go_roundw
    case rel => exact ⟨k + 1, by omega, by go_num, HR9.out, HDn.out, hB9⟩
    case measure => simp [RowKit.intOf]; omega
  ·have hkk : k = t.globals.length := by omega
   subst hkk
   have HDG : Hid (dupG [] t.globals = false) := by show _ = _; rw [HD.out]; simp [dupG]
   have HRg : Hid (SRow (w.heap.size + 2) wr (.slice a3 t.globals.length c3) (t.globals.map (·.name))) := by
    have := HR.out
    rw [List.take_length] at this
    exact this
   clear HR HD hle r0 r1 r2 z0 z1 z2
   go_wp2_with fail
   clear x0 x1 hBw hsz
   go_loopw [3, 5] (fun sv i w2 => ∃ (k : Nat), k ≤ t.funcs.length ∧ i = .int .i64 k ∧ SRow (w.heap.size + 2) w2 sv (t.globals.map (·.name) ++ (t.funcs.take k).map (·.name)) ∧ dupF (t.globals.map (·.name)) 0 t.funcs = dupF (t.globals.map (·.name) ++ (t.funcs.take k).map (·.name)) k (t.funcs.drop k) ∧ Below (w.heap.size + 2) W1 w2) (fun _ i _ => t.funcs.length - (RowKit.intOf i).toNat)
   case atStart => exact ⟨0, Nat.zero_le _, rfl, by simpa using HRg.out, by simp, hB⟩
   case round =>
    clear HRg hB
    obtain ⟨k, hk, rfl, hR, hd, hB⟩ := hrel
    obtain ⟨a3, c3, rfl⟩ := hR.shape
    have HR : Hid (SRow (w.heap.size + 2) wr (.slice a3 (t.globals.map (·.name) ++ (t.funcs.take k).map (·.name)).length c3) (t.globals.map (·.name) ++ (t.funcs.take k).map (·.name))) := hR
    have HD : Hid (dupF (t.globals.map (·.name)) 0 t.funcs = dupF (t.globals.map (·.name) ++ (t.funcs.take k).map (·.name)) k (t.funcs.drop k)) := hd
    obtain ⟨⟨x0, x1⟩, ⟨r0, r1, r2⟩, rz, hBw, hsz⟩ := HBx.out wr hB
    have z0 := rz 0
    have z1 := rz 1
    have z2 := rz 2
    have hle : (t.globals.map (·.name) ++ (t.funcs.take k).map (·.name)).length = t.globals.length + k := by simp; omega
    rw [hle] at HR ⊢
    clear hR hd rz
    by_cases hlt : k < t.funcs.length
    ·obtain ⟨b, off, rfl, hc⟩ := HFC.out (by omega)
     obtain ⟨vp, vb, ⟨c0, -⟩, -⟩ := (hc.below hBw) k hlt
     have hlb : b < wr.heap.size := World.block_lt_of_cell? _ _ c0
     have HD2 : Hid (dupF (t.globals.map (·.name)) 0 t.funcs = dupF (t.globals.map (·.name) ++ (t.funcs.take k).map (·.name)) k (t.funcs[k] :: t.funcs.drop (k + 1))) := by show _ = _; rw [HD.out, drop_cons_ _ _ hlt]
     have HTk : Hid (t.funcs.take (k + 1) = t.funcs.take k ++ [t.funcs[k]]) := take_succ _ _ hlt
     have HSt : Hid (Strs wr (.slice a3 (t.globals.length + k) c3) (t.globals.map (·.name) ++ (t.funcs.take k).map (·.name))) := HR.out.strs (by rw [hle]; omega)
     clear hc HD
     generalize t.funcs[k] = p at c0 HD2 HTk
     generalize hsn : t.globals.map (·.name) ++ (t.funcs.take k).map (·.name) = seen at HR HD2 HSt hle
     have HSn : Hid (t.globals.map (·.name) ++ (t.funcs.take k).map (·.name) = seen) := hsn
     clear hsn
     have HIn : Hid (Calls Tryz.prog 51 #[.slice a3 (t.globals.length + k) c3, .string p.name] wr fun e w' => e = .returned (.bool (inS seen p.name)) ∧ Below wr.heap.size wr w') := l3in_any _ _ p.name wr (by rw [hle]; omega) HSt.out
     go_wp2_with fail
     refine HIn.out.mono ?_
     rintro e w2 ⟨rfl, hb2⟩
     have hB2 : Below (w.heap.size + 2) W1 w2 := hB.trans (hb2.mono hsz)
     have d0 := (hb2.cell (p := ⟨b, off + k * 3, none⟩) hlb).trans c0
     have HR2 : Hid (SRow (w.heap.size + 2) w2 (.slice a3 (t.globals.length + k) c3) seen) := HR.out.below hb2
     clear x0 x1 r0 r1 r2 z0 z1 z2 c0 hB hBw hb2 HIn HSt HR
     obtain ⟨⟨x0, x1⟩, ⟨r0, r1, r2⟩, rz, hBw, hsz2⟩ := HBx.out w2 hB2
     have z0 := rz 0
     have z1 := rz 1
     have z2 := rz 2
     clear rz
     cases hx : inS seen p.name with
     | true =>
      have HE : Hid (RES = (2, (k : Int), -1)) := by
       show _ = _
       rw [HRES.out]
       unfold namesE
       rw [if_neg (by rw [HDG.out]; simp), HD2.out, dupF_hit hx]
      clear hx
      go_wp2_with fail
      obtain ⟨t0, t1, t2⟩ := set3 (u0 := .int .i64 2) (u1 := .int .i64 (k : Int)) (u2 := .int .i64 (-1)) r0 r1 r2
      refine bodyPost_ret (v := .agg #[.int .i64 2, .int .i64 (k : Int), .int .i64 (-1)]) (by simp [results, Tryz.results23, go_sem, t0, t1, t2]) rfl ⟨ret_val (by rw [HE.out]; rfl), ?_⟩
      exact ((hBw.setCell (p := ⟨w.heap.size + 1, 0, none⟩) (by simp) _).setCell (p := ⟨w.heap.size + 1, 1, none⟩) (by simp) _).setCell (p := ⟨w.heap.size + 1, 2, none⟩) (by simp) _
     | false =>
      have HNn : Hid (seen ++ [p.name] = t.globals.map (·.name) ++ (t.funcs.take (k + 1)).map (·.name)) := by show _ = _; rw [HTk.out, ← HSn.out]; simp
      have HDn : Hid (dupF (t.globals.map (·.name)) 0 t.funcs = dupF (t.globals.map (·.name) ++ (t.funcs.take (k + 1)).map (·.name)) ((k + 1 : Nat) : Int) (t.funcs.drop (k + 1))) := by show _ = _; rw [HD2.out, dupF_step hx, HNn.out]; simp
      clear hx
      go_wp2_with (at_builtin; refine wpList_appF rfl _ _ _ rfl (w.heap.size + 2) 9 i0 _ 1 16 Tryz.underlying58 hi hz0 hz1 hz2 rfl (by decide) _ (t.globals.length + k) (seen.map Value.string) rfl (by have := HR2.out.below ((Below.refl _ _).alloc (Nat.le_refl _) (.cells #[.string p.name] 9)); unfold SRow at this; rw [hle] at this; exact this) ⟨w2.heap.size, 0, none⟩ 1 1 [.string p.name] rfl rfl (cell_one_new _ _ _) (by simp [Value.oneCell']) (by omega) (by decide) (by simp; omega) ?_)
      intro v9 w9 ho9 hg9 hf9
      have HR9 : Hid (SRow (w.heap.size + 2) w9 v9 (t.globals.map (·.name) ++ (t.funcs.take (k + 1)).map (·.name))) := by
       show World.ownsRow _ _ _ _ _ _ _
       rw [← HNn.out, List.length_append, hle, List.map_append]
       exact ho9
      have hB9 : Below (w.heap.size + 2) W1 w9 := (hB2.alloc hsz2 _).grown hg9 (by simp; omega) (fun g hg => (World.ownsRow.lt HR2.out g hg).1)
      obtain ⟨a9, c9, rfl⟩ := HR9.out.shape
      have hle9 : (t.globals.map (·.name) ++ (t.funcs.take (k + 1)).map (·.name)).length = t.globals.length + k + 1 := by simp; omega
      rw [hle9] at HR9 ⊢
      clear ho9 hg9 hf9 d0 x0 x1 r0 r1 r2 z0 z1 z2
      go_wp2_with fail
      go_roundw
      case rel => exact ⟨k + 1, by omega, by go_num, HR9.out, HDn.out, hB9⟩
      case measure => simp [RowKit.intOf]; omega
    ·have HDF : Hid (dupF (t.globals.map (·.name)) 0 t.funcs = none) := by
      show _ = _
      have hkk : k = t.funcs.length := by omega
      rw [HD.out, hkk, List.drop_length]; rfl
     have HRm : Hid (RES = match fnum t.funcs mainS with | none => (3, -1, -1) | some m => if (t.funcs.getD m ⟨⟨#[]⟩, [], []⟩).params.length > 0 then (3, -1, -1) else (0, -1, -1)) := by
      show _ = _
      rw [HRES.out]
      unfold namesE
      rw [if_neg (by rw [HDG.out]; simp), HDF.out]
      rfl
     have HFu : Hid (Calls Tryz.prog 25 #[.agg #[.slice ag t.globals.length cg, .slice af t.funcs.length cf], .string ⟨#[109, 97, 105, 110]⟩] wr fun e w' => e = .returned (.int .i64 (fnumI t.funcs mainS)) ∧ Below wr.heap.size wr w') := l3func_any t.funcs _ _ mainS wr (by omega) (HF.out.below hBw)
     clear HR HD hle r0 r1 r2 z0 z1 z2
     go_wp2_with fail
     refine HFu.out.mono ?_
     rintro e w2 ⟨rfl, hb2⟩
     have hB2 : Below (w.heap.size + 2) W1 w2 := hB.trans (hb2.mono hsz)
     clear x0 x1 hB hBw hb2 HFu hsz
     obtain ⟨⟨x0, x1⟩, ⟨r0, r1, r2⟩, rz, hBw, hsz2⟩ := HBx.out w2 hB2
     have z0 := rz 0
     have z1 := rz 1
     have z2 := rz 2
     clear rz
     cases hm : fnum t.funcs mainS with
     | none =>
      have HE : Hid (RES = (3, -1, -1)) := by show _ = _; rw [HRm.out, hm]
      rw [fnumI_none hm]
      clear hm HRm
      go_wp2_with fail
      obtain ⟨t0, t1, t2⟩ := set3 (u0 := .int .i64 3) (u1 := .int .i64 (-1)) (u2 := .int .i64 (-1)) r0 r1 r2
      refine bodyPost_ret (v := .agg #[.int .i64 3, .int .i64 (-1), .int .i64 (-1)]) (by simp [results, Tryz.results23, go_sem, t0, t1, t2]) rfl ⟨ret_val (by rw [HE.out]; rfl), ?_⟩
      exact ((hBw.setCell (p := ⟨w.heap.size + 1, 0, none⟩) (by simp) _).setCell (p := ⟨w.heap.size + 1, 1, none⟩) (by simp) _).setCell (p := ⟨w.heap.size + 1, 2, none⟩) (by simp) _
     | some m =>
      have hml := fnum_lt hm
      obtain ⟨b, off, rfl, hc⟩ := HFC.out (by omega)
      obtain ⟨vp, vb, ⟨-, c1, -⟩, ⟨ap, cp, rfl, -⟩, -⟩ := (hc.below hBw) m hml
      have he : t.funcs.getD m ⟨⟨#[]⟩, [], []⟩ = t.funcs[m] := by simp [List.getD, hml]
      rw [fnumI_some hm]
      have HRm2 : Hid (RES = if t.funcs[m].params.length > 0 then (3, -1, -1) else (0, -1, -1)) := by show _ = _; rw [HRm.out, hm]; simp only; rw [he]
      clear hm HRm hc he
      generalize t.funcs[m].params.length = np at c1 HRm2
      by_cases hnp : 0 < np
      ·have HE : Hid (RES = (3, -1, -1)) := by show _ = _; rw [HRm2.out, if_pos hnp]
       go_wp2_with fail
       obtain ⟨t0, t1, t2⟩ := set3 (u0 := .int .i64 3) (u1 := .int .i64 (-1)) (u2 := .int .i64 (-1)) r0 r1 r2
       refine bodyPost_ret (v := .agg #[.int .i64 3, .int .i64 (-1), .int .i64 (-1)]) (by simp [results, Tryz.results23, go_sem, t0, t1, t2]) rfl ⟨ret_val (by rw [HE.out]; rfl), ?_⟩
       exact ((hBw.setCell (p := ⟨w.heap.size + 1, 0, none⟩) (by simp) _).setCell (p := ⟨w.heap.size + 1, 1, none⟩) (by simp) _).setCell (p := ⟨w.heap.size + 1, 2, none⟩) (by simp) _
      ·have HE : Hid (RES = (0, -1, -1)) := by show _ = _; rw [HRm2.out, if_neg hnp]
       obtain rfl : np = 0 := by omega
       go_wp2_with fail
       obtain ⟨t0, t1, t2⟩ := set3 (u0 := .int .i64 0) (u1 := .int .i64 (-1)) (u2 := .int .i64 (-1)) r0 r1 r2
       refine bodyPost_ret (v := .agg #[.int .i64 0, .int .i64 (-1), .int .i64 (-1)]) (by simp [results, Tryz.results23, go_sem, t0, t1, t2]) rfl ⟨ret_val (by rw [HE.out]; rfl), ?_⟩
       exact ((hBw.setCell (p := ⟨w.heap.size + 1, 0, none⟩) (by simp) _).setCell (p := ⟨w.heap.size + 1, 1, none⟩) (by simp) _).setCell (p := ⟨w.heap.size + 1, 2, none⟩) (by simp) _
end
section
open Go.RowKit
theorem Strs.headS {w : World} {a : Option Addr} {cap : Nat} {ss : List ByteArray} (h : Strs w (.slice a ss.length cap) ss) (k : Nat) (hk : k ≤ ss.length) : Strs w (.slice a k cap) (ss.take k) := by
 obtain ⟨a', cap', he, hl, hm, h⟩ := h
 simp only [Value.slice.injEq, true_and] at he
 obtain ⟨rfl, rfl⟩ := he
 refine ⟨a, cap, by simp [Nat.min_eq_left hk], by simp; omega, hm, fun h0 => ?_⟩
 simp only [List.length_take] at h0
 obtain ⟨b, off, rfl, hc⟩ := h (by omega)
 refine ⟨b, off, rfl, fun j hj => ?_⟩
 simp only [List.length_take] at hj
 have := hc j (by omega)
 rw [this]
 simp
theorem headS_run (a : Option Addr) (n cap k : Nat) (h2 : k ≤ n) (h3 : n ≤ cap) : ∀ w : World, (Instr.slice 58 (.slice a n cap) none (some (.int .i64 (k : Int))) none).run Tryz.prog w = .ok (.slice a k cap) w := by
 intro w
 have hz : Tryz.prog.elem 58 = 9 := by kernel_rfl
 have hs : (sizeOf 9).run Tryz.prog w = .ok 1 w := by kernel_rfl
 rw [run_slice_h w 58 a n cap (by rw [hz]; exact Tryz.underlying58) .i64 _ (by omega) (by omega), hz, hs]
 cases a <;> simp [Result.andThen, sliced, Addr.add]
set_option maxRecDepth 100000 in
set_option maxHeartbeats 2000000 in
theorem l3in_same (xs : List ByteArray) (v : Value) (s : ByteArray) (w : World) (hl : xs.length ≤ 10000000) (hx : Strs w v xs) :
  Calls Tryz.prog 51 #[v, .string s] w fun e w' => e = .returned (.bool (inS xs s)) ∧ w' = w := by
 obtain ⟨a, c, rfl, -, -, hc⟩ := hx
 have HC : Hid (0 < xs.length → ∃ b off, a = some ⟨b, off, none⟩ ∧ StrsC w b off xs) := hc
 clear hc
 go_enter Tryz.func51, Tryz.ntmps51
 go_wp2_with fail
 go_loopw [5] (fun i wr => ∃ k : Nat, k ≤ xs.length ∧ i = .int .i64 k ∧ (∀ j (hj : j < xs.length), j < k → xs[j] ≠ s) ∧ wr = w) (fun i _ => xs.length - (RowKit.intOf i).toNat)
 case atStart => exact ⟨0, Nat.zero_le _, rfl, fun j hj h => absurd h (Nat.not_lt_zero _), rfl⟩
 case round =>
  obtain ⟨k, hk, rfl, hn, hB⟩ := hrel
  subst hB
  have HN : Hid (∀ j (hj : j < xs.length), j < k → xs[j] ≠ s) := hn
  clear hn
  by_cases hlt : k < xs.length
  ·obtain ⟨b, off, rfl, hc⟩ := HC.out (by omega)
   have d0 := hc k hlt
   by_cases hs : xs[k] = s
   ·have HR : Hid (inS xs s = true) := inS_at hlt hs
    rw [hs] at d0
    clear hc hs
    go_wp2_with fail
    go_ret
    exact ⟨ret_bool HR.out.symm, rfl⟩
   ·have HS : Hid (∀ j (hj : j < xs.length), j < k + 1 → xs[j] ≠ s) := fun j hj h => by
     by_cases e : j = k
     ·subst e; exact hs
     ·exact HN.out j hj (by omega)
    clear hc
    have hs' := ne_list hs
    generalize xs[k] = fn at d0 hs hs'
    go_wp2_with fail
    go_roundw
    case rel => exact ⟨k + 1, by omega, by go_num, HS.out, by first | trivial | rfl⟩
    case measure => simp [RowKit.intOf]; omega
  ·have HR : Hid (inS xs s = false) := inS_no (fun j hj => HN.out j hj (by omega))
   go_wp2_with fail
   go_ret
   exact ⟨ret_bool HR.out.symm, rfl⟩
set_option maxRecDepth 100000 in
set_option maxHeartbeats 4000000 in
theorem l3body_any (HBl : ∀ n, L3Block n) (t : Tr) (vg vf : Value) (i : Nat) (w : World) (hi : i < t.funcs.length) (hgl : t.globals.length ≤ 1000) (hfl : t.funcs.length ≤ 1000) (hok : FnOk t.funcs[i]) (hg : Globs w vg t.globals) (hf : Funcs w vf t.funcs) :
  Calls Tryz.prog 24 #[.agg #[vg, vf], .int .i64 (i : Int)] w fun e w' => e = .returned (resV (bodyE t i t.funcs[i])) ∧ Below w.heap.size w w' := by
 have HBL : Hid (∀ n, L3Block n) := HBl
 clear HBl
 obtain ⟨RES, hRES⟩ : ∃ R, R = bodyE t i t.funcs[i] := ⟨_, rfl⟩
 rw [← hRES]
 have HRES : Hid (RES = bodyE t i t.funcs[i]) := hRES
 have HTv : Hid (TrV w t vg vf) := ⟨hg, hf⟩
 obtain ⟨ag, cg, rfl, -⟩ := hg
 obtain ⟨af, cf, rfl, -, -, hfc⟩ := hf
 obtain ⟨b, off, rfl, hc⟩ := hfc (by omega)
 obtain ⟨vp, vb, ⟨c0, c1, c2⟩, hps, hbs⟩ := hc i hi
 have hlb : b < w.heap.size := World.block_lt_of_cell? _ _ c0
 have HOk : Hid (FnOk t.funcs[i]) := hok
 clear hRES hfc hc hok
 generalize t.funcs[i] = f at c0 c1 c2 hps hbs HOk HRES
 have HPs : Hid (Strs w vp f.params) := hps
 have HBs : Hid (Stmts w vb f.body) := hbs
 obtain ⟨ap, cp, rfl, hpc1, hpc2, hpc⟩ := hps
 obtain ⟨ab, cb, rfl, -⟩ := hbs
 have HPC : Hid (0 < f.params.length → ∃ b off, ap = some ⟨b, off, none⟩ ∧ StrsC w b off f.params) := hpc
 have hpl : f.params.length ≤ 1000 := HOk.out.2.2.2.2.1
 have hbl : f.body.length ≤ 1000 := HOk.out.2.2.2.2.2
 clear hpc
 obtain ⟨W1, hW1⟩ : ∃ W1, W1 = (w.alloc (.cells #[.slice ag t.globals.length cg, .slice (some ⟨b, off, none⟩) t.funcs.length cf] 26)).alloc (.cells #[.int .i64 0, .int .i64 0, .int .i64 0] 29) := ⟨_, rfl⟩
 have HBx := two_boxC hW1
 obtain ⟨W2, hW2⟩ : ∃ W2, W2 = W1.alloc (.cells #[.string f.name, .slice ap f.params.length cp, .slice ab f.body.length cb] 61) := ⟨_, rfl⟩
 have hs1 : W1.heap.size = w.heap.size + 2 := by rw [hW1]; simp
 have hs2 : W2.heap.size = w.heap.size + 3 := by rw [hW2]; simp [hs1]
 have HBy : Hid (∀ W, Below (w.heap.size + 3) W2 W → (W.cell? ⟨w.heap.size, 0, none⟩ = some (.slice ag t.globals.length cg) ∧ W.cell? ⟨w.heap.size, 1, none⟩ = some (.slice (some ⟨b, off, none⟩) t.funcs.length cf)) ∧ (W.cell? ⟨w.heap.size + 1, 0, none⟩ = some (.int .i64 0) ∧ W.cell? ⟨w.heap.size + 1, 1, none⟩ = some (.int .i64 0) ∧ W.cell? ⟨w.heap.size + 1, 2, none⟩ = some (.int .i64 0)) ∧ (∀ o, W.frozen? ⟨w.heap.size + 1, o, none⟩ = false) ∧ Below w.heap.size w W ∧ w.heap.size + 3 ≤ W.heap.size ∧ (W.cell? ⟨w.heap.size + 1 + 1, 1, none⟩ = some (.slice ap f.params.length cp) ∧ W.cell? ⟨w.heap.size + 1 + 1, 2, none⟩ = some (.slice ab f.body.length cb))) := fun W hW => by
  have h1 : Below (w.heap.size + 2) W1 W2 := by rw [hW2]; exact (Below.refl _ _).alloc (by omega) _
  obtain ⟨q1, q2, q3, q4, q5⟩ := HBx W (h1.trans (hW.mono (by omega)))
  refine ⟨q1, q2, q3, q4, by have := hW.size; omega, (hW.cell (p := ⟨w.heap.size + 1 + 1, 1, none⟩) (by simp)).trans ?_, (hW.cell (p := ⟨w.heap.size + 1 + 1, 2, none⟩) (by simp)).trans ?_⟩
  ·rw [hW2]; exact (World.cell?_alloc_at _ _ _ _ (by omega)).trans rfl
  ·rw [hW2]; exact (World.cell?_alloc_at _ _ _ _ (by omega)).trans rfl
 clear HBx
 go_enter Tryz.func24, Tryz.ntmps24
 go_wp2_with fail
 rw [← hW1, ← hW2]
 clear hW1 hW2 hs1 c0 c1 c2 hlb
 go_loopw [6] (fun j wr => ∃ (k : Nat), k ≤ f.params.length ∧ j = .int .i64 k ∧ dupP t.globals [] f.params = dupP t.globals (f.params.take k) (f.params.drop k) ∧ Below (w.heap.size + 3) W2 wr) (fun j _ => f.params.length - (RowKit.intOf j).toNat)
 case atStart => exact ⟨0, Nat.zero_le _, rfl, by simp, Below.refl _ _⟩
 case round =>
  clear hs2
  obtain ⟨k, hk, rfl, hd, hB⟩ := hrel
  have HD : Hid (dupP t.globals [] f.params = dupP t.globals (f.params.take k) (f.params.drop k)) := hd
  obtain ⟨⟨x0, x1⟩, ⟨r0, r1, r2⟩, rz, hBw, hsz, y1, y2⟩ := HBy.out wr hB
  have z0 := rz 0
  have z1 := rz 1
  have z2 := rz 2
  clear hd rz
  by_cases hlt : k < f.params.length
  ·obtain ⟨bp, op, rfl, hcp⟩ := HPC.out (by omega)
   have d0 := (hBw.cell (p := ⟨bp, op + k, none⟩) (World.block_lt_of_cell? _ _ (hcp k hlt))).trans (hcp k hlt)
   have HD2 : Hid (dupP t.globals [] f.params = dupP t.globals (f.params.take k) (f.params[k] :: f.params.drop (k + 1))) := by show _ = _; rw [HD.out, drop_cons_ _ _ hlt]
   have HTk : Hid (f.params.take (k + 1) = f.params.take k ++ [f.params[k]]) := take_succ _ _ hlt
   have hrn := headS_run (some ⟨bp, op, none⟩) f.params.length cp k (by omega) hpc1
   have hqb : bp < wr.heap.size := World.block_lt_of_cell? _ _ d0
   have hq0 : w.heap.size < wr.heap.size := by omega
   have hq2 : w.heap.size + 1 + 1 < wr.heap.size := by omega
   clear hcp HD
   generalize f.params[k] = p at d0 HD2 HTk
   have hdr : Below wr.heap.size wr wr.drew := (Below.refl _ _).drew
   have HIn : Hid (Calls Tryz.prog 51 #[.slice (some ⟨bp, op, none⟩) k cp, .string p] wr.drew fun e w' => e = .returned (.bool (inS (f.params.take k) p)) ∧ Below wr.drew.heap.size wr.drew w') := l3in_any _ _ p wr.drew (by simp; omega) ((HPs.out.below (hBw.drew)).headS k (by omega))
   have HGb : Hid (Globs wr (.slice ag t.globals.length cg) t.globals) := HTv.out.g.below hBw
   cases hin : inS (f.params.take k) p with
   | true =>
    have HE : Hid (RES = (2, (i : Int), -1)) := by
     show _ = _
     rw [HRES.out]
     unfold bodyE
     rw [if_pos (by rw [HD2.out]; exact dupP_hit (.inl hin))]
    have HIs : Hid (∀ n, Calls Tryz.prog 51 #[.slice (some ⟨bp, op, none⟩) k cp, .string p] (wr.drewN n) fun e w' => e = .returned (.bool true) ∧ w' = wr.drewN n) := fun n => by
     have := l3in_same (f.params.take k) (.slice (some ⟨bp, op, none⟩) k cp) p (wr.drewN n) (by simp; omega) ((HPs.out.below (below_drewN hBw n)).headS k (by omega))
     rw [hin] at this
     exact this
    clear hin HIn
    have hi1 : (0 : Int) ≤ (k : Int) := by omega
    have hi2 : (k : Int) < (f.params.length : Int) := by omega
    go_wp2_with fail
    go_quiet ((go_at_call 51; exact Calls.quiet_of_same (HIs.out _)))
    have hB2 : Below (w.heap.size + 3) W2 (wr.drewN nq) := below_drewN hB _
    clear x0 x1 y1 y2 r0 r1 r2 z0 z1 z2 hB hBw d0
    obtain ⟨-, ⟨r0, r1, r2⟩, rz, hBw, -⟩ := HBy.out (wr.drewN nq) hB2
    have z0 := rz 0
    have z1 := rz 1
    have z2 := rz 2
    clear rz
    go_wp2_with fail
    obtain ⟨t0, t1, t2⟩ := set3 (u0 := .int .i64 2) (u1 := .int .i64 (i : Int)) (u2 := .int .i64 (-1)) r0 r1 r2
    refine bodyPost_ret (v := .agg #[.int .i64 2, .int .i64 (i : Int), .int .i64 (-1)]) (by simp [results, Tryz.results24, go_sem, t0, t1, t2]) rfl ⟨ret_val (by rw [HE.out]; rfl), ?_⟩
    exact ((hBw.setCell (p := ⟨w.heap.size + 1, 0, none⟩) (by simp) _).setCell (p := ⟨w.heap.size + 1, 1, none⟩) (by simp) _).setCell (p := ⟨w.heap.size + 1, 2, none⟩) (by simp) _
   | false =>
    rw [hin] at HIn
    have HGl : Hid (∀ W, Below wr.heap.size wr W → Calls Tryz.prog 52 #[.agg #[.slice ag t.globals.length cg, .slice (some ⟨b, off, none⟩) t.funcs.length cf], .string p] W fun e w' => e = .returned (.int .i64 (globI t.globals p)) ∧ Below W.heap.size W w') := fun W hW => l3global_any t.globals _ _ p W (by omega) (HGb.out.below hW)
    have HQ1 : Hid (0 ≤ globI t.globals p → RES = (2, (i : Int), -1)) := fun h => by
     rw [HRES.out]
     unfold bodyE
     rw [if_pos (by rw [HD2.out]; exact dupP_hit (.inr h))]
    have HQ2 : Hid (¬ 0 ≤ globI t.globals p → dupP t.globals [] f.params = dupP t.globals (f.params.take (k + 1)) (f.params.drop (k + 1))) := fun h => by
     rw [HD2.out, dupP_step (by rw [hin]; simpa using h), HTk.out]
    clear hin
    generalize globI t.globals p = gi at HGl HQ1 HQ2
    obtain ⟨bg, hbg⟩ : ∃ bg, decide (0 ≤ gi) = bg := ⟨_, rfl⟩
    go_wp2_with fail
    go_region_held3 (fun W => W.cell? ⟨w.heap.size, 0, none⟩ = some (.slice ag t.globals.length cg) ∧ W.cell? ⟨w.heap.size, 1, none⟩ = some (.slice (some ⟨b, off, none⟩) t.funcs.length cf) ∧ W.cell? ⟨w.heap.size + 1 + 1, 1, none⟩ = some (.slice (some ⟨bp, op, none⟩) f.params.length cp) ∧ W.cell? ⟨bp, op + k, none⟩ = some (.string p)) (go_simp)
     (first
     | ((with_reducible refine Calls.mono HIn.out ?_); rintro e w2 ⟨rfl, hb2⟩; have e0 : w2.cell? ⟨w.heap.size, 0, none⟩ = some (.slice ag t.globals.length cg) := (hb2.cell (p := ⟨w.heap.size, 0, none⟩) hq0).trans x0; have e1 : w2.cell? ⟨w.heap.size, 1, none⟩ = some (.slice (some ⟨b, off, none⟩) t.funcs.length cf) := (hb2.cell (p := ⟨w.heap.size, 1, none⟩) hq0).trans x1; have e2 : w2.cell? ⟨w.heap.size + 1 + 1, 1, none⟩ = some (.slice (some ⟨bp, op, none⟩) f.params.length cp) := (hb2.cell (p := ⟨w.heap.size + 1 + 1, 1, none⟩) hq2).trans y1; have e3 : w2.cell? ⟨bp, op + k, none⟩ = some (.string p) := (hb2.cell (p := ⟨bp, op + k, none⟩) hqb).trans d0; have hbw2 : Below wr.heap.size wr w2 := hdr.trans hb2)
     | ((with_reducible refine Calls.mono (HGl.out _ hbw2) ?_); rintro e w3 ⟨rfl, hb3⟩; have hbw3 : Below wr.heap.size wr w3 := hbw2.trans (hb3.mono hbw2.size); have g0 : w3.cell? ⟨w.heap.size, 0, none⟩ = some (.slice ag t.globals.length cg) := (hbw3.cell (p := ⟨w.heap.size, 0, none⟩) hq0).trans x0; have g1 : w3.cell? ⟨w.heap.size, 1, none⟩ = some (.slice (some ⟨b, off, none⟩) t.funcs.length cf) := (hbw3.cell (p := ⟨w.heap.size, 1, none⟩) hq0).trans x1; have g2 : w3.cell? ⟨w.heap.size + 1 + 1, 1, none⟩ = some (.slice (some ⟨bp, op, none⟩) f.params.length cp) := (hbw3.cell (p := ⟨w.heap.size + 1 + 1, 1, none⟩) hq2).trans y1; have g3 : w3.cell? ⟨bp, op + k, none⟩ = some (.string p) := (hbw3.cell (p := ⟨bp, op + k, none⟩) hqb).trans d0))
    have hB3 : Below (w.heap.size + 3) W2 w3 := hB.trans (hbw3.mono hsz)
    clear x0 x1 y1 y2 r0 r1 r2 z0 z1 z2 hB hBw d0
    obtain ⟨-, ⟨r0, r1, r2⟩, rz, hBw, -⟩ := HBy.out w3 hB3
    have z0 := rz 0
    have z1 := rz 1
    have z2 := rz 2
    clear rz e0 e1 e2 e3 g0 g1 g2 g3
    by_cases hgi : 0 ≤ gi
    ·have HE : Hid (RES = (2, (i : Int), -1)) := HQ1.out hgi
     obtain rfl : bg = true := hbg.symm.trans (decide_eq_true hgi)
     clear hbg
     go_wp2_with fail
     obtain ⟨t0, t1, t2⟩ := set3 (u0 := .int .i64 2) (u1 := .int .i64 (i : Int)) (u2 := .int .i64 (-1)) r0 r1 r2
     refine bodyPost_ret (v := .agg #[.int .i64 2, .int .i64 (i : Int), .int .i64 (-1)]) (by simp [results, Tryz.results24, go_sem, t0, t1, t2]) rfl ⟨ret_val (by rw [HE.out]; rfl), ?_⟩
     exact ((hBw.setCell (p := ⟨w.heap.size + 1, 0, none⟩) (by simp) _).setCell (p := ⟨w.heap.size + 1, 1, none⟩) (by simp) _).setCell (p := ⟨w.heap.size + 1, 2, none⟩) (by simp) _
    ·have HDn : Hid (dupP t.globals [] f.params = dupP t.globals (f.params.take (k + 1)) (f.params.drop (k + 1))) := HQ2.out (by omega)
     obtain rfl : bg = false := hbg.symm.trans (decide_eq_false hgi)
     clear hbg
     clear r0 r1 r2 z0 z1 z2
     go_wp2_with fail
     go_roundw
     case rel => exact ⟨k + 1, by omega, by go_num, HDn.out, hB3⟩
     case measure => simp [RowKit.intOf]; omega
  ·have hkk : k = f.params.length := by omega
   have HD0 : Hid (dupP t.globals [] f.params = false) := by show _ = _; rw [HD.out, hkk, List.drop_length]; rfl
   have HBk : Hid (Calls Tryz.prog 53 #[.agg #[.slice ag t.globals.length cg, .slice (some ⟨b, off, none⟩) t.funcs.length cf], .slice ab f.body.length cb, .int .i64 0, .slice ap f.params.length cp, .slice ap f.params.length cp] wr fun e w' => ∃ vt', e = .returned (.tuple #[.int .i64 (blkE t f.body 0 f.params f.params).1, .int .i64 (blkE t f.body 0 f.params f.params).2.1, vt']) ∧ Strs w' vt' (blkE t f.body 0 f.params f.params).2.2 ∧ Below wr.heap.size wr w') :=
    HBL.out f.body.length t _ _ _ _ _ f.body 0 f.params f.params wr (Nat.le_refl _) (HTv.out.below hBw) (HBs.out.below hBw) HOk.out.1 HOk.out.2.1 (HPs.out.below hBw) (HPs.out.below hBw) (by omega) (by omega) (by omega) (by omega) (by omega) (by omega)
   have HRn : Hid (RES = if (blkE t f.body 0 f.params f.params).1 ≠ 0 then ((blkE t f.body 0 f.params f.params).1, (i : Int), (blkE t f.body 0 f.params f.params).2.1) else (0, -1, -1)) := by
    show _ = _
    rw [HRES.out]
    unfold bodyE
    rw [if_neg (by rw [HD0.out]; simp)]
   clear HD r0 r1 r2 z0 z1 z2
   go_wp2_with fail
   refine HBk.out.mono ?_
   rintro e w2 ⟨vt, rfl, -, hb2⟩
   have hB2 : Below (w.heap.size + 3) W2 w2 := hB.trans (hb2.mono hsz)
   clear x0 x1 y1 y2 hB hBw hb2 HBk
   obtain ⟨-, ⟨r0, r1, r2⟩, rz, hBw, -⟩ := HBy.out w2 hB2
   have z0 := rz 0
   have z1 := rz 1
   have z2 := rz 2
   clear rz
   generalize (blkE t f.body 0 f.params f.params).1 = q1 at HRn ⊢
   generalize (blkE t f.body 0 f.params f.params).2.1 = q2 at HRn ⊢
   by_cases hq : q1 = 0
   ·have HE : Hid (RES = (0, -1, -1)) := by show _ = _; rw [HRn.out, if_neg (by simp [hq])]
    subst hq
    go_wp2_with fail
    obtain ⟨t0, t1, t2⟩ := set3 (u0 := .int .i64 0) (u1 := .int .i64 (-1)) (u2 := .int .i64 (-1)) r0 r1 r2
    refine bodyPost_ret (v := .agg #[.int .i64 0, .int .i64 (-1), .int .i64 (-1)]) (by simp [results, Tryz.results24, go_sem, t0, t1, t2]) rfl ⟨ret_val (by rw [HE.out]; rfl), ?_⟩
    exact ((hBw.setCell (p := ⟨w.heap.size + 1, 0, none⟩) (by simp) _).setCell (p := ⟨w.heap.size + 1, 1, none⟩) (by simp) _).setCell (p := ⟨w.heap.size + 1, 2, none⟩) (by simp) _
   ·have HE : Hid (RES = (q1, (i : Int), q2)) := by show _ = _; rw [HRn.out, if_pos hq]
    have b1 : (q1 == 0) = false := by simpa using hq
    go_wp2_with fail
    obtain ⟨t0, t1, t2⟩ := set3 (u0 := .int .i64 q1) (u1 := .int .i64 (i : Int)) (u2 := .int .i64 q2) r0 r1 r2
    refine bodyPost_ret (v := .agg #[.int .i64 q1, .int .i64 (i : Int), .int .i64 q2]) (by simp [results, Tryz.results24, go_sem, t0, t1, t2]) rfl ⟨ret_val (by rw [HE.out]; rfl), ?_⟩
    exact ((hBw.setCell (p := ⟨w.heap.size + 1, 0, none⟩) (by simp) _).setCell (p := ⟨w.heap.size + 1, 1, none⟩) (by simp) _).setCell (p := ⟨w.heap.size + 1, 2, none⟩) (by simp) _
end
section
open Go.RowKit
def preE (t : Tr) : Int × Int × Int := if (namesE t).1 ≠ 0 then namesE t else bodiesE t 0 t.funcs
theorem namesE_ok {t : Tr} (h : (namesE t).1 = 0) : namesE t = (0, -1, -1) := by
 by_cases ht : (topE t).1 = 0
 ·rw [names_main ht] at h ⊢
  simp only at h
  rw [h]
 ·rw [names_top ht] at h
  exact absurd h ht
theorem bodyE_ok {t : Tr} {i : Nat} {f : Fu} (h : (bodyE t i f).1 = 0) : bodyE t i f = (0, -1, -1) := by
 unfold bodyE at h ⊢
 split
 ·rename_i h1; rw [if_pos h1] at h; simp at h
 ·rename_i h1
  rw [if_neg h1] at h
  split
  ·rename_i h2; rw [if_pos h2] at h; exact absurd h h2
  ·rfl
theorem check_pre {t : Tr} (h : treeB t = true) (hp : (preE t).1 ≠ 0) : checkE t = preE t := by
 unfold preE at hp ⊢
 by_cases hn : (namesE t).1 = 0
 ·rw [if_neg (by simp [hn])] at hp ⊢
  exact check_bodies h hn hp
 ·rw [if_pos hn]
  exact check_names h hn
theorem names_ok_main {t : Tr} (h : (namesE t).1 = 0) : ∃ m, fnum t.funcs mainS = some m := by
 by_cases ht : (topE t).1 = 0
 ·rw [names_main ht] at h
  exact main_zero h
 ·rw [names_top ht] at h
  exact absurd h ht
structure Lk (t : Tr) (k : Nat) (r : Int × Int × Int) : Prop where
 bad : r.1 ≠ 0 → preE t = r
 ok : r.1 = 0 → (namesE t).1 = 0 ∧ r = (0, -1, -1) ∧ bodiesE t 0 t.funcs = bodiesE t k (t.funcs.drop k)
theorem Lk.start (t : Tr) : Lk t 0 (namesE t) := by
 refine ⟨fun h => ?_, fun h => ⟨h, namesE_ok h, by simp⟩⟩
 unfold preE
 rw [if_pos h]
theorem Lk.next {t : Tr} {k : Nat} {r : Int × Int × Int} (h : Lk t k r) (h0 : r.1 = 0) (hk : k < t.funcs.length) : Lk t (k + 1) (bodyE t k t.funcs[k]) := by
 obtain ⟨h1, h2, h3⟩ := h.ok h0
 rw [drop_cons_ _ _ hk, bodiesE] at h3
 refine ⟨fun hb => ?_, fun hb => ⟨h1, bodyE_ok hb, ?_⟩⟩
 ·unfold preE
  rw [if_neg (by simp [h1]), h3, if_pos hb]
 ·rw [h3, if_neg (by simp [hb])]
theorem Lk.all {t : Tr} {r : Int × Int × Int} (h : Lk t t.funcs.length r) (h0 : r.1 = 0) : (namesE t).1 = 0 ∧ (bodiesE t 0 t.funcs).1 = 0 ∧ r = (0, -1, -1) := by
 obtain ⟨h1, h2, h3⟩ := h.ok h0
 rw [List.drop_length] at h3
 exact ⟨h1, by rw [h3]; rfl, h2⟩
theorem box3B {B : Nat} {w w' : World} {x y z : Value} (h : w.cell? ⟨B, 0, none⟩ = some x ∧ w.cell? ⟨B, 1, none⟩ = some y ∧ w.cell? ⟨B, 2, none⟩ = some z) (hf : ∀ o, w.frozen? ⟨B, o, none⟩ = false) (hb : Below w.heap.size w w') :
  (w'.cell? ⟨B, 0, none⟩ = some x ∧ w'.cell? ⟨B, 1, none⟩ = some y ∧ w'.cell? ⟨B, 2, none⟩ = some z) ∧ ∀ o, w'.frozen? ⟨B, o, none⟩ = false := by
 have hl := World.block_lt_of_cell? _ _ h.1
 exact ⟨⟨(hb.cell (p := ⟨B, 0, none⟩) hl).trans h.1, (hb.cell (p := ⟨B, 1, none⟩) hl).trans h.2.1, (hb.cell (p := ⟨B, 2, none⟩) hl).trans h.2.2⟩, fun o => (hb.frozen (p := ⟨B, o, none⟩) hl).trans (hf o)⟩
set_option maxRecDepth 100000 in
set_option maxHeartbeats 4000000 in
theorem checkCG_any (HBl : ∀ n, L3Block n) (t : Tr) (vg vf : Value) (w : World) (hs : smallT t) (hw : wfT t) (hg : Globs w vg t.globals) (hf : Funcs w vf t.funcs) :
  Calls Tryz.prog 6 #[.agg #[vg, vf]] w fun e w' => e = .returned (resV (checkE t)) ∧ Below w.heap.size w w' := by
 have HBL : Hid (∀ n, L3Block n) := HBl
 obtain ⟨RES, hRES⟩ : ∃ R, R = checkE t := ⟨_, rfl⟩
 rw [← hRES]
 have HRES : Hid (RES = checkE t) := hRES
 have HG : Hid (Globs w vg t.globals) := hg
 have HF : Hid (Funcs w vf t.funcs) := hf
 have HS : Hid (smallT t) := hs
 have HW : Hid (wfT t) := hw
 obtain ⟨ag, cg, rfl, -⟩ := hg
 obtain ⟨af, cf, rfl, -⟩ := hf
 obtain ⟨W1, hW1⟩ : ∃ W1, W1 = (w.alloc (.cells #[.slice ag t.globals.length cg, .slice af t.funcs.length cf] 26)).alloc (.cells #[.int .i64 0, .int .i64 0, .int .i64 0] 29) := ⟨_, rfl⟩
 have HBx : Hid (∀ W, Below (w.heap.size + 2) W1 W → (W.cell? ⟨w.heap.size, 0, none⟩ = some (.slice ag t.globals.length cg) ∧ W.cell? ⟨w.heap.size, 1, none⟩ = some (.slice af t.funcs.length cf)) ∧ (W.cell? ⟨w.heap.size + 1, 0, none⟩ = some (.int .i64 0) ∧ W.cell? ⟨w.heap.size + 1, 1, none⟩ = some (.int .i64 0) ∧ W.cell? ⟨w.heap.size + 1, 2, none⟩ = some (.int .i64 0)) ∧ (∀ o, W.frozen? ⟨w.heap.size + 1, o, none⟩ = false) ∧ Below w.heap.size w W ∧ w.heap.size + 2 ≤ W.heap.size) := two_boxC hW1
 have hs1 : W1.heap.size = w.heap.size + 2 := by rw [hW1]; simp
 obtain ⟨-, -, -, hB1, -⟩ := HBx.out W1 (Below.refl _ _)
 clear hRES HBl hs hw
 go_enter Tryz.func6, Tryz.ntmps6
 go_wp2_with fail
 rw [← hW1]
 clear hW1
 refine (gtree_any t _ _ W1 HS.out (HG.out.below hB1) (HF.out.below hB1)).mono ?_
 rintro e w2 ⟨rfl, hb2⟩
 have hB2 : Below (w.heap.size + 2) W1 w2 := hb2.mono (by omega)
 clear hb2 hs1 hB1
 obtain ⟨⟨x0, x1⟩, ⟨r0, r1, r2⟩, rz, hBw, hsz⟩ := HBx.out w2 hB2
 have z0 := rz 0
 have z1 := rz 1
 have z2 := rz 2
 cases htb : treeB t with
 | false =>
  have HE : Hid (RES = (1, -1, -1)) := HRES.out.trans (check_tree htb)
  clear htb rz
  go_wp2_with fail
  obtain ⟨t0, t1, t2⟩ := set3 (u0 := .int .i64 1) (u1 := .int .i64 (-1)) (u2 := .int .i64 (-1)) r0 r1 r2
  refine bodyPost_ret (v := .agg #[.int .i64 1, .int .i64 (-1), .int .i64 (-1)]) (by simp [results, Tryz.results6, go_sem, t0, t1, t2]) rfl ⟨ret_val (by rw [HE.out]; rfl), ?_⟩
  exact ((hBw.setCell (p := ⟨w.heap.size + 1, 0, none⟩) (by simp) _).setCell (p := ⟨w.heap.size + 1, 1, none⟩) (by simp) _).setCell (p := ⟨w.heap.size + 1, 2, none⟩) (by simp) _
 | true =>
  have HB : Hid (treeB t = true) := htb
  have hok := okt htb HS.out HW.out
  have HOk : Hid (Okt t) := hok
  have hfl := hok.fl
  have hgl := hok.gl
  clear htb hok rz r0 r1 r2 z0 z1 z2
  go_wp2_with fail
  refine (l3names_any t _ _ w2 (by omega) (by omega) (HG.out.below hBw) (HF.out.below hBw)).mono ?_
  rintro e w3 ⟨rfl, hb3⟩
  have hB3 : Below (w.heap.size + 2) W1 w3 := hB2.trans (hb3.mono hsz)
  clear x0 x1 hBw hb3 hsz hB2
  obtain ⟨⟨x0, x1⟩, -, -, hBw, hsz⟩ := HBx.out w3 hB3
  obtain ⟨n0, n1, n2, hn⟩ : ∃ n0 n1 n2, namesE t = (n0, n1, n2) := ⟨_, _, _, rfl⟩
  have HLk : Hid (Lk t 0 (n0, n1, n2)) := by rw [← hn]; exact Lk.start t
  rw [hn, show resV (n0, n1, n2) = .agg #[.int .i64 n0, .int .i64 n1, .int .i64 n2] from rfl]
  clear hn
  go_wp2_with fail
  obtain ⟨B3, hB3e⟩ : ∃ B3, B3 = w3.heap.size := ⟨_, rfl⟩
  have HQ0 : Hid (Below (w.heap.size + 2) W1 (w3.alloc (.cells #[.int .i64 n0, .int .i64 n1, .int .i64 n2] 29))) := hB3.alloc hsz _
  have HQ1 : Hid (((w3.alloc (.cells #[.int .i64 n0, .int .i64 n1, .int .i64 n2] 29)).cell? ⟨B3, 0, none⟩ = some (.int .i64 n0) ∧ (w3.alloc (.cells #[.int .i64 n0, .int .i64 n1, .int .i64 n2] 29)).cell? ⟨B3, 1, none⟩ = some (.int .i64 n1) ∧ (w3.alloc (.cells #[.int .i64 n0, .int .i64 n1, .int .i64 n2] 29)).cell? ⟨B3, 2, none⟩ = some (.int .i64 n2)) ∧ ∀ o, (w3.alloc (.cells #[.int .i64 n0, .int .i64 n1, .int .i64 n2] 29)).frozen? ⟨B3, o, none⟩ = false) := by
   rw [hB3e]
   exact ⟨⟨by simp, by simp, by simp⟩, fun o => by simp⟩
  have hBB : w.heap.size + 2 ≤ B3 := by omega
  rw [← hB3e]
  clear hB3e x0 x1 hBw hsz hB3
  go_loopw [4] (fun i wr => ∃ (k : Nat) (r0 r1 r2 : Int), k ≤ t.funcs.length ∧ i = .int .i64 k ∧ (wr.cell? ⟨B3, 0, none⟩ = some (.int .i64 r0) ∧ wr.cell? ⟨B3, 1, none⟩ = some (.int .i64 r1) ∧ wr.cell? ⟨B3, 2, none⟩ = some (.int .i64 r2)) ∧ (∀ o, wr.frozen? ⟨B3, o, none⟩ = false) ∧ Lk t k (r0, r1, r2) ∧ Below (w.heap.size + 2) W1 wr) (fun i _ => t.funcs.length - (RowKit.intOf i).toNat)
  case atStart => exact ⟨0, n0, n1, n2, Nat.zero_le _, rfl, HQ1.out.1, HQ1.out.2, HLk.out, HQ0.out⟩
  case round =>
   clear HQ0 HQ1 HLk
   obtain ⟨k, q0, q1, q2, hk, rfl, ⟨b0, b1, b2⟩, bz, hlk, hB⟩ := hrel
   have HLk : Hid (Lk t k (q0, q1, q2)) := hlk
   have HBz : Hid (∀ o, wr.frozen? ⟨B3, o, none⟩ = false) := bz
   have bz0 := bz 0
   have bz1 := bz 1
   have bz2 := bz 2
   have hB3l : B3 < wr.heap.size := World.block_lt_of_cell? _ _ b0
   obtain ⟨⟨x0, x1⟩, ⟨r0, r1, r2⟩, rz, hBw, hsz⟩ := HBx.out wr hB
   clear hlk bz
   by_cases hlt : k < t.funcs.length
   ·by_cases hq : q0 = 0
    ·subst hq
     have HLn : Hid (Lk t (k + 1) (bodyE t k t.funcs[k])) := HLk.out.next rfl hlt
     have HBo : Hid (Calls Tryz.prog 24 #[.agg #[.slice ag t.globals.length cg, .slice af t.funcs.length cf], .int .i64 (k : Int)] wr fun e w' => e = .returned (resV (bodyE t k t.funcs[k])) ∧ Below wr.heap.size wr w') := l3body_any HBL.out t _ _ k wr hlt (by omega) (by omega) (HOk.out.f _ (List.getElem_mem hlt)) (HG.out.below hBw) (HF.out.below hBw)
     obtain ⟨m0, m1, m2, hm⟩ : ∃ m0 m1 m2, bodyE t k t.funcs[k] = (m0, m1, m2) := ⟨_, _, _, rfl⟩
     rw [hm] at HLn HBo
     have HBo2 : Hid (Calls Tryz.prog 24 #[.agg #[.slice ag t.globals.length cg, .slice af t.funcs.length cf], .int .i64 (k : Int)] wr fun e w' => e = .returned (.agg #[.int .i64 m0, .int .i64 m1, .int .i64 m2]) ∧ Below wr.heap.size wr w') := HBo.out
     clear hm HBo r0 r1 r2 rz
     go_wp2_with fail
     refine HBo2.out.mono ?_
     rintro e w4 ⟨rfl, hb4⟩
     obtain ⟨⟨c0, c1, c2⟩, cz⟩ := box3B ⟨b0, b1, b2⟩ HBz.out hb4
     have cz0 := cz 0
     have cz1 := cz 1
     have cz2 := cz 2
     have HCz : Hid (∀ o, w4.frozen? ⟨B3, o, none⟩ = false) := cz
     have hB4 := hB.trans (hb4.mono hsz)
     have HS3 : Hid _ := set3 (u0 := .int .i64 m0) (u1 := .int .i64 m1) (u2 := .int .i64 m2) c0 c1 c2
     clear hb4 b0 b1 b2 bz0 bz1 bz2 x0 x1 cz HBo2
     go_wp2_with fail
     go_roundw
     case rel => exact ⟨k + 1, m0, m1, m2, by omega, by go_num, HS3.out, fun o => by simpa using HCz.out o, HLn.out, ((hB4.setCell (p := ⟨B3, 0, none⟩) hBB _).setCell (p := ⟨B3, 1, none⟩) hBB _).setCell (p := ⟨B3, 2, none⟩) hBB _⟩
     case measure => simp [RowKit.intOf]; omega
    ·have HE : Hid (RES = (q0, q1, q2)) := by
      have h1 := HLk.out.bad hq
      show _ = _
      rw [HRES.out, check_pre HB.out (by rw [h1]; exact hq), h1]
     have e1 : (q0 == 0) = false := by simpa using hq
     have z0 := rz 0
     have z1 := rz 1
     have z2 := rz 2
     clear rz
     go_wp2_with fail
     obtain ⟨t0, t1, t2⟩ := set3 (u0 := .int .i64 q0) (u1 := .int .i64 q1) (u2 := .int .i64 q2) r0 r1 r2
     refine bodyPost_ret (v := .agg #[.int .i64 q0, .int .i64 q1, .int .i64 q2]) (by simp [results, Tryz.results6, go_sem, t0, t1, t2]) rfl ⟨ret_val (by rw [HE.out]; rfl), ?_⟩
     exact ((hBw.setCell (p := ⟨w.heap.size + 1, 0, none⟩) (by simp) _).setCell (p := ⟨w.heap.size + 1, 1, none⟩) (by simp) _).setCell (p := ⟨w.heap.size + 1, 2, none⟩) (by simp) _
   ·have hkk : k = t.funcs.length := by omega
    by_cases hq : q0 = 0
    ·subst hq
     subst hkk
     obtain ⟨hn1, hn2, hn3⟩ := HLk.out.all rfl
     simp only [Prod.mk.injEq, true_and] at hn3
     obtain ⟨rfl, rfl⟩ := hn3
     obtain ⟨m, hm⟩ := names_ok_main hn1
     have HR1 : Hid (RES = circE t m 0 t.funcs.length) := HRES.out.trans (check_circ HB.out hn1 hn2 hm)
     have hml := fnum_lt hm
     have HFm : Hid (Calls Tryz.prog 25 #[.agg #[.slice ag t.globals.length cg, .slice af t.funcs.length cf], .string ⟨#[109, 97, 105, 110]⟩] wr fun e w' => e = .returned (.int .i64 (m : Int)) ∧ Below wr.heap.size wr w') := by
      have := l3func_any t.funcs (.slice ag t.globals.length cg) _ mainS wr (by omega) (HF.out.below hBw)
      rw [fnumI_some hm] at this
      exact this
     clear hn1 hn2 hm HLk r0 r1 r2 rz
     go_wp2_with fail
     refine HFm.out.mono ?_
     rintro e w4 ⟨rfl, hb4⟩
     have hB4 := hB.trans (hb4.mono hsz)
     have HQ4 := box3B ⟨b0, b1, b2⟩ HBz.out hb4
     have HP4 : Hid ((w4.cell? ⟨B3, 0, none⟩ = some (.int .i64 0) ∧ w4.cell? ⟨B3, 1, none⟩ = some (.int .i64 (-1)) ∧ w4.cell? ⟨B3, 2, none⟩ = some (.int .i64 (-1))) ∧ ∀ o, w4.frozen? ⟨B3, o, none⟩ = false) := HQ4
     clear hb4 b0 b1 b2 bz0 bz1 bz2 x0 x1 hBw hsz HQ4 HFm hB HBz hB3l
     obtain ⟨⟨x0, x1⟩, -, -, hBw, hsz⟩ := HBx.out w4 hB4
     have HRe : Hid (∀ (W : World) (f : Nat), Below w4.heap.size w4 W → f < t.funcs.length → Calls Tryz.prog 26 #[.agg #[.slice ag t.globals.length cg, .slice af t.funcs.length cf], .slice (some ⟨W.heap.size, 0, none⟩) 1 1] (W.alloc (.cells #[.int .i64 (f : Int)] 2)) fun e w' => ∃ v out, e = .returned v ∧ IRow (W.heap.size + 1) w' v out ∧ (∀ g, g ∈ out ↔ Rch t f g) ∧ out.length ≤ 1000 ∧ Below W.heap.size W w') := fun W f hW hfl2 => by
      have hA : Below W.heap.size W (W.alloc (.cells #[.int .i64 (f : Int)] 2)) := (Below.refl _ _).alloc (Nat.le_refl _) _
      have hFW : Funcs (W.alloc (.cells #[.int .i64 (f : Int)] 2)) (.slice af t.funcs.length cf) t.funcs := (HF.out.below (hBw.trans (hW.mono hBw.size))).below hA
      refine (l3reach_any t (.slice ag t.globals.length cg) _ (.slice (some ⟨W.heap.size, 0, none⟩) 1 1) f _ hfl2 (by omega) HOk.out.sm ⟨_, _, _, rfl⟩ hFW ?_ ?_).mono ?_
      ·refine ⟨_, 1, rfl, fun _ => ⟨W.heap.size, rfl, fun j hj => ?_⟩⟩
       have hj0 : j = 0 := by simp at hj; omega
       subst hj0
       simp
      ·intro a n c he
       simp only [Value.slice.injEq] at he
       omega
      ·rintro e w' ⟨v, out, he, h1, h2, h3, h4⟩
       rw [World.size_alloc] at h1 h4
       exact ⟨v, out, he, h1, h2, h3, hA.trans (h4.mono (by omega))⟩
     obtain ⟨i1, hj, hy0, hy1, hy2⟩ := info_parts info_i64
     go_wp2_with fail
     refine (HRe.out w4 m (Below.refl _ _) hml).mono ?_
     rintro e w5 ⟨v5, out, rfl, hv5, ho5, hl5, hb5⟩
     have HV5 : Hid (IRow (w4.heap.size + 1) w5 v5 out) := hv5
     have HO5 : Hid (∀ g, g ∈ out ↔ Rch t m g) := ho5
     obtain ⟨a5, c5, rfl⟩ := hv5.shape
     have hs5 : w4.heap.size ≤ w5.heap.size := hb5.size
     clear hv5 ho5 x0 x1
     go_wp2_with (at_builtin; refine wpList_appF rfl _ _ _ rfl w4.heap.size 2 i1 _ 1 8 Tryz.underlying31 hj hy0 hy1 hy2 rfl (by decide) _ out.length (out.map (fun g : Nat => Value.int .i64 (g : Int))) rfl ((IRow.base HV5.out (by omega)).below ((Below.refl _ _).alloc (Nat.le_refl _) _)) ⟨w5.heap.size, 0, none⟩ 1 1 [.int .i64 (m : Int)] rfl rfl (cell_one_new _ _ _) (by simp [Value.oneCell']) (by omega) (by decide) (by simp; omega) ?_)
     intro v6 w6 ho6 hg6 hf6
     have HV6 : Hid (IRow w4.heap.size w6 v6 (out ++ [m])) := by
      show World.ownsRow _ _ _ _ _ _ _
      simpa using ho6
     have hb6 : Below w4.heap.size w4 w6 := (hb5.alloc hb5.size (.cells #[.int .i64 (m : Int)] 2)).grown hg6 (by simp; omega) (fun g hg => by have := (World.ownsRow.lt HV5.out g hg).1; omega)
     obtain ⟨a6, c6, rfl⟩ := HV6.out.shape
     have hle6 : (out ++ [m]).length = out.length + 1 := by simp
     rw [hle6] at HV6 ⊢
     clear ho6 hg6 hf6 hb5 HV5 hs5
     go_wp2_with fail
     go_loopw [7] (fun i wr => ∃ (k : Nat), k ≤ t.funcs.length ∧ i = .int .i64 k ∧ RES = circE t m k (t.funcs.length - k) ∧ Below w6.heap.size w6 wr) (fun i _ => t.funcs.length - (RowKit.intOf i).toNat)
     case atStart => exact ⟨0, Nat.zero_le _, rfl, by simpa using HR1.out, Below.refl _ _⟩
     case round =>
      clear HR1
      obtain ⟨k, hk, rfl, hres, hB⟩ := hrel
      have HR1 : Hid (RES = circE t m k (t.funcs.length - k)) := hres
      have hb7 : Below w4.heap.size w4 wr := hb6.trans (hB.mono hb6.size)
      obtain ⟨⟨x0, x1⟩, ⟨r0, r1, r2⟩, rz, hBw2, -⟩ := HBx.out wr (hB4.trans (hb7.mono hsz))
      have z0 := rz 0
      have z1 := rz 1
      have z2 := rz 2
      obtain ⟨⟨b0, b1, b2⟩, -⟩ := box3B HP4.out.1 HP4.out.2 hb7
      clear hres rz
      by_cases hlt : k < t.funcs.length
      ·have HR2 : Hid (RES = circE t m k ((t.funcs.length - (k + 1)) + 1)) := by
        show _ = _
        rw [HR1.out]
        congr 1
        omega
       have HHs : Hid (Calls Tryz.prog 27 #[.slice a6 (out.length + 1) c6, .int .i64 (k : Int)] wr fun e w' => e = .returned (.bool (decide (k ∈ out ++ [m]))) ∧ Below wr.heap.size wr w') := l3has_any (out ++ [m]) _ k wr (by simp; omega) (HV6.out.below hB).ints
       clear r0 r1 r2 z0 z1 z2 b0 b1 b2
       go_wp2_with fail
       refine HHs.out.mono ?_
       rintro e w8 ⟨rfl, hb8⟩
       have hB8 := hB.trans (hb8.mono hB.size)
       have hb9 : Below w4.heap.size w4 w8 := hb7.trans (hb8.mono hb7.size)
       clear x0 x1 hBw2 HHs hb8
       by_cases hin : k ∈ out ++ [m]
       ·have HA : Hid (k = m ∨ Rch t m k) := by
         rw [List.mem_append, List.mem_singleton] at hin
         rcases hin with h1 | h1
         ·exact .inr ((HO5.out k).1 h1)
         ·exact .inl h1
        rw [decide_eq_true hin]
        clear hin
        obtain ⟨⟨x0, x1⟩, -, -, -, -⟩ := HBx.out w8 (hB4.trans (hb9.mono hsz))
        go_wp2_with fail
        refine (HRe.out w8 k hb9 hlt).mono ?_
        rintro e w10 ⟨v10, out10, rfl, hv10, ho10, hl10, hb10⟩
        obtain ⟨a10, c10, rfl⟩ := hv10.shape
        have HHs : Hid (Calls Tryz.prog 27 #[.slice a10 out10.length c10, .int .i64 (k : Int)] w10 fun e w' => e = .returned (.bool (decide (k ∈ out10))) ∧ Below w10.heap.size w10 w') := l3has_any out10 _ k w10 (by omega) hv10.ints
        have hB10 := hB8.trans (hb10.mono hB8.size)
        have hb11 : Below w4.heap.size w4 w10 := hb9.trans (hb10.mono hb9.size)
        have HO10 : Hid (∀ g, g ∈ out10 ↔ Rch t k g) := ho10
        clear x0 x1 hv10 hb10 ho10
        go_wp2_with fail
        refine HHs.out.mono ?_
        rintro e w12 ⟨rfl, hb12⟩
        have hB12 := hB10.trans (hb12.mono hB10.size)
        have hb13 : Below w4.heap.size w4 w12 := hb11.trans (hb12.mono hb11.size)
        clear HHs hb12
        by_cases h10 : k ∈ out10
        ·rw [decide_eq_true h10]
         have HE : Hid (RES = (7, (k : Int), -1)) := by show _ = _; rw [HR2.out]; exact circE_hit ⟨HA.out, (HO10.out k).1 h10⟩
         obtain ⟨-, ⟨r0, r1, r2⟩, rz, hBw, -⟩ := HBx.out w12 (hB4.trans (hb13.mono hsz))
         have z0 := rz 0
         have z1 := rz 1
         have z2 := rz 2
         clear rz h10
         go_wp2_with fail
         obtain ⟨t0, t1, t2⟩ := set3 (u0 := .int .i64 7) (u1 := .int .i64 (k : Int)) (u2 := .int .i64 (-1)) r0 r1 r2
         refine bodyPost_ret (v := .agg #[.int .i64 7, .int .i64 (k : Int), .int .i64 (-1)]) (by simp [results, Tryz.results6, go_sem, t0, t1, t2]) rfl ⟨ret_val (by rw [HE.out]; rfl), ?_⟩
         exact ((hBw.setCell (p := ⟨w.heap.size + 1, 0, none⟩) (by simp) _).setCell (p := ⟨w.heap.size + 1, 1, none⟩) (by simp) _).setCell (p := ⟨w.heap.size + 1, 2, none⟩) (by simp) _
        ·rw [decide_eq_false h10]
         have HN : Hid (RES = circE t m (k + 1) (t.funcs.length - (k + 1))) := by show _ = _; rw [HR2.out]; exact circE_step (fun h => h10 ((HO10.out k).2 h.2))
         clear h10
         go_wp2_with fail
         go_roundw
         case rel => exact ⟨k + 1, by omega, by go_num, HN.out, hB12⟩
         case measure => simp [RowKit.intOf]; omega
       ·rw [decide_eq_false hin]
        have HN : Hid (RES = circE t m (k + 1) (t.funcs.length - (k + 1))) := by
         show _ = _
         rw [HR2.out]
         refine circE_step (fun h => hin ?_)
         rw [List.mem_append, List.mem_singleton]
         rcases h.1 with h1 | h1
         ·exact .inr h1
         ·exact .inl ((HO5.out k).2 h1)
        clear hin
        go_wp2_with fail
        go_roundw
        case rel => exact ⟨k + 1, by omega, by go_num, HN.out, hB8⟩
        case measure => simp [RowKit.intOf]; omega
      ·have HE : Hid (RES = (0, -1, -1)) := by
        show _ = _
        have e : t.funcs.length - k = 0 := by omega
        rw [HR1.out, e]
        rfl
       have hBw := hBw2
       go_wp2_with fail
       obtain ⟨t0, t1, t2⟩ := set3 (u0 := .int .i64 0) (u1 := .int .i64 (-1)) (u2 := .int .i64 (-1)) r0 r1 r2
       refine bodyPost_ret (v := .agg #[.int .i64 0, .int .i64 (-1), .int .i64 (-1)]) (by simp [results, Tryz.results6, go_sem, t0, t1, t2]) rfl ⟨ret_val (by rw [HE.out]; rfl), ?_⟩
       exact ((hBw.setCell (p := ⟨w.heap.size + 1, 0, none⟩) (by simp) _).setCell (p := ⟨w.heap.size + 1, 1, none⟩) (by simp) _).setCell (p := ⟨w.heap.size + 1, 2, none⟩) (by simp) _
    ·have HE : Hid (RES = (q0, q1, q2)) := by
      have h1 := HLk.out.bad hq
      show _ = _
      rw [HRES.out, check_pre HB.out (by rw [h1]; exact hq), h1]
     have e1 : (q0 == 0) = false := by simpa using hq
     have z0 := rz 0
     have z1 := rz 1
     have z2 := rz 2
     clear rz
     go_wp2_with fail
     obtain ⟨t0, t1, t2⟩ := set3 (u0 := .int .i64 q0) (u1 := .int .i64 q1) (u2 := .int .i64 q2) r0 r1 r2
     refine bodyPost_ret (v := .agg #[.int .i64 q0, .int .i64 q1, .int .i64 q2]) (by simp [results, Tryz.results6, go_sem, t0, t1, t2]) rfl ⟨ret_val (by rw [HE.out]; rfl), ?_⟩
     exact ((hBw.setCell (p := ⟨w.heap.size + 1, 0, none⟩) (by simp) _).setCell (p := ⟨w.heap.size + 1, 1, none⟩) (by simp) _).setCell (p := ⟨w.heap.size + 1, 2, none⟩) (by simp) _
end
section
theorem sound_tr {t : Tr} (h : (checkE t).1 = 0) : treeB t = true := by
 cases hb : treeB t with
 | true => rfl
 | false => rw [check_tree hb] at h; cases h
theorem sound_main {t : Tr} (h : (checkE t).1 = 0) : ∃ m, fnum t.funcs mainS = some m ∧ m < t.funcs.length ∧ Acyc t m := by
 have hb := sound_tr h
 by_cases hn : (namesE t).1 = 0
 ·obtain ⟨m, hm⟩ := names_ok_main hn
  have hlt : m < t.funcs.length := fnum_lt hm
  refine ⟨m, hm, hlt, ?_⟩
  by_cases hz : (bodiesE t 0 t.funcs).1 = 0
  ·rw [check_circ hb hn hz hm] at h
   intro x hx
   have hxl : x < t.funcs.length := by rcases hx with rfl | hx; exact hlt; exact hx.lt
   exact circE_acyc t.funcs.length 0 h x (Nat.zero_le _) (by omega) hx
  ·rw [check_bodies hb hn hz] at h; exact absurd h hz
 ·rw [check_names hb hn] at h; exact absurd h hn
end
section
open Go.RowKit
structure FndIs (t : Tr) (D : DataW Unit) (ks : List Nat) : Prop where
 map : Maps.IsMap D
 nd : ks.Nodup
 lt : ∀ k ∈ ks, k < t.funcs.length
 has : ∀ k : Nat, Maps.has D (.int .i64 (k : Int)) = decide (k ∈ ks)
 val : ∀ k ∈ ks, ∃ n s, Dp t n k s ∧ D.atKey (.int .i64 (k : Int)) (.lit (.int .i64 0)) = .lit (.int .i64 s)
theorem FndIs.nil (t : Tr) : FndIs t (.map []) [] := ⟨Maps.isMap_empty, List.nodup_nil, by simp, fun k => by simp [Maps.has], by simp⟩
theorem FndIs.len {t : Tr} {D : DataW Unit} {ks : List Nat} (h : FndIs t D ks) : ks.length ≤ t.funcs.length := by
 have := nodup_len ks (List.range t.funcs.length) h.nd (fun x hx => List.mem_range.2 (h.lt x hx))
 simpa using this
theorem FndIs.put {t : Tr} {D : DataW Unit} {ks : List Nat} (h : FndIs t D ks) {n f : Nat} {s : Int} (hd : Dp t n f s) (hf : f ∉ ks) : FndIs t (D.put (.int .i64 (f : Int)) (.lit (.int .i64 s))) (ks ++ [f]) := by
 have hne : ∀ k : Nat, k ≠ f → (Lit.int .i64 (k : Int)) ≠ (Lit.int .i64 (f : Int)) := fun k hk e => by
  injection e with _ e
  exact hk (by omega)
 refine ⟨h.map.put _ _, ?_, ?_, fun k => ?_, fun k hk => ?_⟩
 ·rw [List.nodup_append]
  exact ⟨h.nd, by simp, fun a ha b hb e => by simp at hb; subst hb; subst e; exact hf ha⟩
 ·intro k hk
  rcases List.mem_append.1 hk with hk | hk
  ·exact h.lt k hk
  ·simp at hk; subst hk; exact hd.lt
 ·by_cases e : k = f
  ·subst e
   rw [Maps.has_put_same (k := .int .i64 (k : Int)) h.map trivial]
   simp
  ·rw [Maps.has_put_other (hne k e), h.has k]
   simp [e]
 ·by_cases e : k = f
  ·subst e
   exact ⟨n, s, hd, Maps.atKey_put_same (k := .int .i64 (k : Int)) h.map trivial _ _⟩
  ·have hk' : k ∈ ks := by
    rcases List.mem_append.1 hk with hk | hk
    ·exact hk
    ·simp at hk; exact absurd hk e
   obtain ⟨n', s', h1, h2⟩ := h.val k hk'
   exact ⟨n', s', h1, by rw [Maps.atKey_put_other (hne k e)]; exact h2⟩
theorem look_fnd {W : World} {b nn : Nat} {t : Tr} {D : DataW Unit} {ks : List Nat} (hown : W.ownsMap Tryz.prog 2 (plainElem (H := Unit) Tryz.prog 2) b nn D) (hN : FndIs t D ks) {f n : Nat} {s : Int} (hf : f ≤ 1000000) (h : f ∈ ks) (hd : Dp t n f s) :
  (Instr.lookup 120 (.map (some b)) (.int .i64 (f : Int)) true).run Tryz.prog W = .ok (.tuple #[.int .i64 s, .bool true]) W := by
 obtain ⟨v, ps, hrun, hv⟩ := hown.look_ok (Maps.int_keyed Tryz.underlying2) Tryz.underlying120 (Tryz.zeroValue2 _) (plainElem_int Tryz.underlying2 (by decide)) (Maps.keyOf_int_mk Tryz.underlying2 (WalkArith.wf_i64 (n := (f : Int)) (by omega)))
 obtain ⟨n', s', h1, h2⟩ := hN.val f h
 rw [h2] at hv
 obtain ⟨c, rfl, hc, _⟩ := plainElem_int_inv Tryz.underlying2 hv
 simp only [Prod.mk.injEq, DataW.lit.injEq, Lit.int.injEq, true_and] at hc
 obtain ⟨hc, -⟩ := hc
 subst hc
 rw [hN.has f, decide_eq_true h, h1.one hd] at hrun
 exact hrun
theorem look_new {W : World} {b nn : Nat} {t : Tr} {D : DataW Unit} {ks : List Nat} (hown : W.ownsMap Tryz.prog 2 (plainElem (H := Unit) Tryz.prog 2) b nn D) (hN : FndIs t D ks) {f : Nat} (hf : f ≤ 1000000) (h : f ∉ ks) :
  (Instr.lookup 120 (.map (some b)) (.int .i64 (f : Int)) true).run Tryz.prog W = .ok (.tuple #[.int .i64 0, .bool false]) W := by
 obtain ⟨v, ps, hrun, hv⟩ := hown.look_ok (Maps.int_keyed Tryz.underlying2) Tryz.underlying120 (Tryz.zeroValue2 _) (plainElem_int Tryz.underlying2 (by decide)) (Maps.keyOf_int_mk Tryz.underlying2 (WalkArith.wf_i64 (n := (f : Int)) (by omega)))
 have hh := hN.has f
 rw [decide_eq_false h] at hh
 rw [Maps.atKey_of_not_has hh] at hv
 obtain ⟨c, rfl, hc, _⟩ := plainElem_int_inv Tryz.underlying2 hv
 simp only [Prod.mk.injEq, DataW.lit.injEq, Lit.int.injEq, true_and] at hc
 obtain ⟨hc, -⟩ := hc
 subst hc
 rw [hh] at hrun
 exact hrun
def deepE (t : Tr) (f : Nat) : Int := eps 0 (fun s => ∃ n, Dp t n f s)
theorem Dp.deep {t : Tr} {n f : Nat} {s : Int} (h : Dp t n f s) : deepE t f = s := by
  obtain ⟨m, hm⟩ := eps_spec (d := 0) (p := fun s => ∃ n, Dp t n f s) ⟨s, n, h⟩
  exact hm.one h
open Classical in
def boundE (t : Tr) : Int := if (checkE t).1 = 0 ∧ ∀ x ∈ framesL t, x ≤ 2032 then deepE t ((fnum t.funcs mainS).getD 0) else -1
theorem sound_dp {t : Tr} (h : (checkE t).1 = 0) {m : Nat} (hm : fnum t.funcs mainS = some m) (hl : m < t.funcs.length) (ha : Acyc t m) : ∃ s, Dp t t.funcs.length m s := dp_exists hl ha t.funcs.length m (.inl rfl) (rk_all t m)
end
section
def LiveS (t : Tr) (m x : Nat) : Prop := x = m ∨ Rch t m x
theorem LiveS.call {t : Tr} {m f c : Nat} (h : LiveS t m f) (hl : f < t.funcs.length) (hc : c ∈ clF t f) : LiveS t m c := by
 have hcr : CallR t f c := ⟨hl, hc⟩
 rcases h with rfl | h
 ·exact .inr (.one hcr)
 ·exact .inr (.step h hcr)
theorem foldl_max_mono : ∀ (l : List Nat) (g h : Nat → Int) (p q : Int), p ≤ q → (∀ c ∈ l, g c ≤ h c) → (l.map g).foldl max p ≤ (l.map h).foldl max q
 | [], _, _, _, _, hp, _ => hp
 | a :: r, g, h, p, q, hp, hl => foldl_max_mono r g h (max p (g a)) (max q (h a)) (by have := hl a (by simp); omega) (fun c hc => hl c (by simp [hc]))
theorem mxL_mono {l : List Nat} {g h : Nat → Int} (hl : ∀ c ∈ l, g c ≤ h c) : mxL (l.map g) ≤ mxL (l.map h) := foldl_max_mono l g h 0 0 (Int.le_refl _) hl
structure SumI (t : Tr) (m r : Nat) (S : Nat → Int) : Prop where
 bd : ∀ f, LiveS t m f → 0 ≤ S f ∧ S f ≤ deepE t f
 ok : ∀ f, LiveS t m f → ∀ s, Dp t r f s → S f = s
structure SumK (t : Tr) (m r : Nat) (done : List Nat) (S : Nat → Int) : Prop extends SumI t m r S where
 up : ∀ f ∈ done, ∀ s, Dp t (r + 1) f s → S f = s
def updS (S : Nat → Int) (f : Nat) (v : Int) : Nat → Int := fun x => if x = f then v else S x
theorem SumI.zero {t : Tr} {m : Nat} (hz : ∀ f, f < t.funcs.length → 0 ≤ fszF t f ∧ fszF t f ≤ 1000000) (hD : ∀ f, LiveS t m f → ∃ n s, Dp t n f s) : SumI t m 0 (fun _ => 0) := by
 refine ⟨fun f hf => ?_, fun f hf s hs => by cases hs using Dp_i⟩
 obtain ⟨n, s, h⟩ := hD f hf
 rw [h.deep]
 exact ⟨Int.le_refl _, (h.bd hz).1⟩
theorem SumI.start {t : Tr} {m r : Nat} {S : Nat → Int} (h : SumI t m r S) : SumK t m r [] S := ⟨h, by simp⟩
theorem deep_eq {t : Tr} {n f : Nat} {s : Int} (h : Dp t n f s) : deepE t f = fszF t f + mxL ((clF t f).map (deepE t)) := by
 obtain ⟨k, rfl, hk⟩ := h.kids
 rw [h.deep]
 exact h.sums (deepE t) (fun c hc x hx => hx.deep)
theorem SumK.step {t : Tr} {m r : Nat} {done : List Nat} {S : Nat → Int} (h : SumK t m r done S) (hz : ∀ f, f < t.funcs.length → 0 ≤ fszF t f ∧ fszF t f ≤ 1000000) (hD : ∀ f, LiveS t m f → ∃ n s, Dp t n f s) {f : Nat} (hf : LiveS t m f) (hl : f < t.funcs.length) :
  SumK t m r (done ++ [f]) (updS S f (mxL ((clF t f).map S) + fszF t f)) := by
 have key : ∀ s, Dp t (r + 1) f s → mxL ((clF t f).map S) + fszF t f = s := fun s hs => by
  have := hs.sums S (fun c hc x hx => h.ok c (hf.call hl hc) x hx)
  omega
 refine ⟨⟨fun g hg => ?_, fun g hg s hs => ?_⟩, fun g hg s hs => ?_⟩
 ·unfold updS
  split
  ·rename_i e
   subst e
   obtain ⟨n, s, hd⟩ := hD g hg
   rw [deep_eq hd]
   have h1 : mxL ((clF t g).map S) ≤ mxL ((clF t g).map (deepE t)) := mxL_mono (fun c hc => (h.bd c (hg.call hl hc)).2)
   have h2 : 0 ≤ mxL ((clF t g).map S) := foldl_max_ge _ 0
   have h3 := hz g hl
   omega
  ·exact h.bd g hg
 ·unfold updS
  split
  ·rename_i e
   subst e
   exact key s (hs.more _ (by omega))
  ·exact h.ok g hg s hs
 ·unfold updS
  split
  ·rename_i e
   subst e
   exact key s hs
  ·rename_i e
   rcases List.mem_append.1 hg with hg | hg
   ·exact h.up g hg s hs
   ·simp at hg; exact absurd hg e
theorem SumK.next {t : Tr} {m r : Nat} {live : List Nat} {S : Nat → Int} (h : SumK t m r live S) (hl : ∀ x, LiveS t m x → x ∈ live) : SumI t m (r + 1) S := ⟨h.bd, fun f hf s hs => h.up f (hl f hf) s hs⟩
theorem deep_bd {t : Tr} {m : Nat} (hz : ∀ f, f < t.funcs.length → 0 ≤ fszF t f ∧ fszF t f ≤ 1000000) (hm : m < t.funcs.length) (ha : Acyc t m) {f : Nat} (hf : LiveS t m f) : ∃ s, Dp t t.funcs.length f s ∧ deepE t f = s ∧ 0 ≤ s ∧ s ≤ 1000000 * t.funcs.length := by
 obtain ⟨s, hs⟩ := dp_exists hm ha t.funcs.length f hf (rk_all t f)
 have := hs.bd hz
 exact ⟨s, hs, hs.deep, this.1, this.2⟩
end
section
open Go.RowKit
def fromV (F G R P : Nat) : Value := .func (Fn.func 74) #[] #[.pointer (some ⟨F, 0, none⟩), .pointer (some ⟨G, 0, none⟩), .pointer (some ⟨R, 0, none⟩), .pointer (some ⟨P, 0, none⟩)]
def LEnv (t : Tr) (F G R P bm GG cap : Nat) (vs : Nat → Value) (vfr : Value) (w0 : World) : Prop := ∀ w, But bm w0 w →
 (w.cell? ⟨F, 0, none⟩ = some (.map (some bm)) ∧ w.cell? ⟨R, 0, none⟩ = some (fromV F G R P) ∧ w.cell? ⟨G, 0, none⟩ = some (.slice (some ⟨GG, 0, none⟩) t.funcs.length cap) ∧ w.cell? ⟨P, 0, none⟩ = some vfr) ∧ (∀ j, j < t.funcs.length → w.cell? ⟨GG, j, none⟩ = some (vs j) ∧ Ints w (vs j) (callI t.funcs j)) ∧ Ints w vfr (t.funcs.map frameSz)
theorem But.trans {b : Nat} {w w1 w2 : World} (h : But b w w1) (h' : But b w1 w2) : But b w w2 := ⟨Nat.le_trans h.1 h'.1, fun B hB hn => (h'.2 B (Nat.lt_of_lt_of_le hB h.1) hn).trans (h.2 B hB hn)⟩
def FromC (t : Tr) (F G R P bm : Nat) (w0 : World) (f : Nat) (s : Int) : Prop := ∀ (w : World) (ks : List Nat) (D : DataW Unit), But bm w0 w → w.ownsMap Tryz.prog 2 (plainElem (H := Unit) Tryz.prog 2) bm ks.length D → FndIs t D ks →
 Calls Tryz.prog 74 #[.int .i64 (f : Int), .pointer (some ⟨F, 0, none⟩), .pointer (some ⟨G, 0, none⟩), .pointer (some ⟨R, 0, none⟩), .pointer (some ⟨P, 0, none⟩)] w fun e w' => e = .returned (.int .i64 s) ∧ (But bm w w' ∧ Below bm w w') ∧ ∃ ks' D', w'.ownsMap Tryz.prog 2 (plainElem (H := Unit) Tryz.prog 2) bm ks'.length D' ∧ FndIs t D' ks' ∧ ∀ x ∈ ks', x ∈ ks ∨ x = f ∨ Rch t f x
theorem callI_cl (t : Tr) (f : Nat) : callI t.funcs f = (clF t f).map (fun g : Nat => (g : Int)) := rfl
theorem map_frame_get {t : Tr} {f : Nat} (h : f < t.funcs.length) : (t.funcs.map frameSz)[f]'(by simpa using h) = fszF t f := by
 unfold fszF
 simp [List.getD, h]
set_option maxRecDepth 100000 in
set_option maxHeartbeats 4000000 in
theorem from_step (t : Tr) (F G R P bm GG cap : Nat) (vs : Nat → Value) (vfr : Value) (w0 : World) (hE : LEnv t F G R P bm GG cap vs vfr w0) (hfl : t.funcs.length ≤ 50) (hz : ∀ f, f < t.funcs.length → 0 ≤ fszF t f ∧ fszF t f ≤ 1000000)
  (n f : Nat) (g : Nat → Int) (hn : n ≤ 1000) (hf : f < t.funcs.length) (hg : ∀ c ∈ clF t f, Dp t n c (g c)) (ih : ∀ c ∈ clF t f, FromC t F G R P bm w0 c (g c)) : FromC t F G R P bm w0 f (fszF t f + mxL ((clF t f).map g)) := by
 intro w ks D hBt hown hF
 have HE : Hid (LEnv t F G R P bm GG cap vs vfr w0) := hE
 have hdp : Dp t (n + 1) f (fszF t f + mxL ((clF t f).map g)) := .mk n f g hf hg
 have HDp : Hid (Dp t (n + 1) f (fszF t f + mxL ((clF t f).map g))) := hdp
 have HIh : Hid (∀ c ∈ clF t f, FromC t F G R P bm w0 c (g c)) := ih
 have HBt : Hid (But bm w0 w) := hBt
 obtain ⟨⟨e1, e2, e3, e4⟩, hG, hI⟩ := hE w hBt
 by_cases hk : f ∈ ks
 ·have hlook := look_fnd hown hF (by omega) hk hdp
  have HR : Hid (∃ ks' D', w.ownsMap Tryz.prog 2 (plainElem (H := Unit) Tryz.prog 2) bm ks'.length D' ∧ FndIs t D' ks' ∧ ∀ x ∈ ks', x ∈ ks ∨ x = f ∨ Rch t f x) := ⟨ks, D, hown, hF, fun x hx => .inl hx⟩
  generalize fszF t f + mxL ((clF t f).map g) = s at hlook
  clear hown hF hdp HDp hG hI hg ih hE
  go_enter Tryz.func74, Tryz.ntmps74
  go_wp2_with fail
  go_ret
  exact ⟨rfl, ⟨But.refl _ _, Below.refl _ _⟩, HR.out⟩
 ·have hlook := look_new hown hF (by omega) hk
  have HO : Hid (w.ownsMap Tryz.prog 2 (plainElem (H := Unit) Tryz.prog 2) bm ks.length D ∧ FndIs t D ks) := ⟨hown, hF⟩
  have HMb : Hid (∀ k, 0 ≤ mxL (((clF t f).take k).map g) ∧ mxL (((clF t f).take k).map g) ≤ 1000000 * n) := fun k => mxL_bd _ _ (by omega) (fun x hx => by
   obtain ⟨c, hc, rfl⟩ := List.mem_map.1 hx
   exact ((hg c (List.mem_of_mem_take hc)).bd hz).2)
  obtain ⟨hvj, hIj⟩ := hG f hf
  rw [callI_cl] at hIj
  have HZf : Hid (0 ≤ fszF t f ∧ fszF t f ≤ 1000000) := hz f hf
  obtain ⟨aj, cj, hvs, -⟩ := hIj
  rw [List.length_map] at hvs
  have HVs : Hid (vs f = .slice aj (clF t f).length cj) := hvs
  rw [hvs] at hvj
  have hlen : (clF t f).length ≤ 50 := by have := callsL_len t.funcs (t.funcs.getD f ⟨⟨#[]⟩, [], []⟩).body; unfold clF; omega
  clear hown hF hdp hI hg ih hE hG hvs
  go_enter Tryz.func74, Tryz.ntmps74
  go_wp2_with fail
  clear hlook e1 e2 e3 e4 hvj
  go_loopw [9, 25] (fun p i wr => ∃ (k : Nat) (ks' : List Nat) (D' : DataW Unit), k ≤ (clF t f).length ∧ i = .int .i64 k ∧ p = .int .i64 (mxL (((clF t f).take k).map g)) ∧ wr.ownsMap Tryz.prog 2 (plainElem (H := Unit) Tryz.prog 2) bm ks'.length D' ∧ FndIs t D' ks' ∧ (∀ x ∈ ks', x ∈ ks ∨ Rch t f x) ∧ But bm w wr ∧ Below bm w wr) (fun _ i _ => (clF t f).length - (RowKit.intOf i).toNat)
  case atStart => exact ⟨0, ks, D, Nat.zero_le _, rfl, rfl, HO.out.1, HO.out.2, fun x hx => .inl hx, But.refl _ _, Below.refl _ _⟩
  case round =>
   obtain ⟨k, ks', D', hkl, rfl, rfl, hown, hF, hsub, hBw, hBl⟩ := hrel
   have hBt0 : But bm w0 wr := HBt.out.trans hBw
   obtain ⟨⟨e1, e2, e3, e4⟩, hG, hI⟩ := HE.out wr hBt0
   obtain ⟨-, hIj⟩ := hG f hf
   rw [callI_cl, HVs.out] at hIj
   obtain ⟨aj', cj', heq, hcj⟩ := hIj
   rw [List.length_map] at heq
   simp only [Value.slice.injEq, true_and] at heq
   obtain ⟨rfl, rfl⟩ := heq
   obtain ⟨hm0, hm1⟩ := HMb.out k
   by_cases hlt : k < (clF t f).length
   ·obtain ⟨b, rfl, hcell⟩ := hcj (by rw [List.length_map]; omega)
    have hc := hcell k (by simpa using hlt)
    rw [List.getElem_map] at hc
    have HC : Hid (Calls Tryz.prog 74 #[.int .i64 ((clF t f)[k] : Int), .pointer (some ⟨F, 0, none⟩), .pointer (some ⟨G, 0, none⟩), .pointer (some ⟨R, 0, none⟩), .pointer (some ⟨P, 0, none⟩)] wr fun e w' => e = .returned (.int .i64 (g (clF t f)[k])) ∧ (But bm wr w' ∧ Below bm wr w') ∧ ∃ ks2 D', w'.ownsMap Tryz.prog 2 (plainElem (H := Unit) Tryz.prog 2) bm ks2.length D' ∧ FndIs t D' ks2 ∧ ∀ x ∈ ks2, x ∈ ks' ∨ x = (clF t f)[k] ∨ Rch t (clF t f)[k] x) := HIh.out _ (List.getElem_mem hlt) wr ks' D' hBt0 hown hF
    have HN : Hid (mxL (((clF t f).take (k + 1)).map g) = max (mxL (((clF t f).take k).map g)) (g (clF t f)[k])) := by show _ = _; rw [List.take_succ_eq_append_getElem hlt, List.map_append]; exact mxL_snoc _ _
    have hcr : CallR t f (clF t f)[k] := ⟨hf, List.getElem_mem hlt⟩
    have HSub : Hid (∀ x ∈ ks', x ∈ ks ∨ Rch t f x) := hsub
    clear hcj hcell hG hI hown hF e1 e3 e4 hsub
    generalize (clF t f)[k] = c at hc HC HN hcr
    have HCr : Hid (CallR t f c) := hcr
    clear hcr
    generalize mxL (((clF t f).take k).map g) = p at HN hm0 hm1
    generalize g c = q at HC HN
    unfold fromV at e2
    go_wp2_with fail
    refine HC.out.mono ?_
    rintro e w2 ⟨rfl, ⟨hb1, hb2⟩, ks2, D2, ho2, hf2, hs2⟩
    have HR : Hid (w2.ownsMap Tryz.prog 2 (plainElem (H := Unit) Tryz.prog 2) bm ks2.length D2 ∧ FndIs t D2 ks2 ∧ ∀ x ∈ ks2, x ∈ ks ∨ Rch t f x) := ⟨ho2, hf2, fun x hx => by
     rcases hs2 x hx with h | rfl | h
     ·exact HSub.out x h
     ·exact .inr (.one HCr.out)
     ·exact .inr ((Rch.one HCr.out).trans h)⟩
    have hbb1 := hBw.trans hb1
    have hbb2 := hBl.trans hb2
    clear ho2 hf2 hs2 hb1 hb2 HC hc e2 hBw hBl hBt0
    go_wp2_with fail
    go_roundw
    case rel => exact ⟨k + 1, ks2, D2, by omega, by go_num, by rw [HN.out], HR.out.1, HR.out.2.1, HR.out.2.2, hbb1, hbb2⟩
    case measure => simp [RowKit.intOf]; omega
   ·obtain rfl : k = (clF t f).length := by omega
    rw [List.take_length] at hm0 hm1 ⊢
    have hnf : f ∉ ks' := fun h => by
     rcases hsub f h with h | h
     ·exact hk h
     ·exact Dp.acyc _ HDp.out h
    have hzf := HZf.out
    obtain ⟨afr, cfr, hvf, hfc⟩ := hI
    rw [List.length_map] at hvf
    obtain ⟨bf, rfl, hfcell⟩ := hfc (by rw [List.length_map]; omega)
    have hfv := hfcell f (by simpa using hf)
    rw [map_frame_get hf] at hfv
    rw [hvf] at e4
    have hksl := hF.len
    obtain ⟨p, hp⟩ : ∃ p, p = mxL ((clF t f).map g) := ⟨_, rfl⟩
    obtain ⟨z, hz⟩ : ∃ z, z = fszF t f := ⟨_, rfl⟩
    have HZp : Hid (z + p = fszF t f + mxL ((clF t f).map g)) := by show _ = _; rw [hz, hp]
    rw [← hp] at hm0 hm1 HDp ⊢
    rw [← hz] at hfv hzf HDp
    have hbd : -9223372036854775808 ≤ z + p ∧ z + p ≤ 9223372036854775807 := by omega
    have hOd : wr.drew.ownsMap Tryz.prog 2 (plainElem (H := Unit) Tryz.prog 2) bm ks'.length D' := hown
    have hkey := Maps.keyOf_int_mk (P := Tryz.prog) Tryz.underlying2 (WalkArith.wf_i64 (n := (f : Int)) (by omega))
    obtain ⟨w5, hrun, hown5, hgrow5⟩ := hOd.update (Maps.int_keyed Tryz.underlying2) Tryz.underlying120 (by unfold maxLen; omega) hkey (plainElem_int (H := Unit) Tryz.underlying2 (a := z + p) (WalkArith.wf_i64 hbd))
    have hB5 : But bm w0 w5 := hBt0.grown hgrow5
    have hBw5 : But bm w w5 := hBw.grown hgrow5
    have hBl5 : Below bm w w5 := hBl.drew.grown hgrow5 (Nat.le_of_lt hOd.lt) (fun j hj => by cases hj; exact Nat.le_refl _)
    obtain ⟨⟨e1', -, -, -⟩, -⟩ := HE.out w5 hB5
    obtain ⟨c, hrun2, hat, -⟩ := hown5.lookup_int (key := .int .i64 (f : Int)) (Maps.int_keyed Tryz.underlying2) Tryz.underlying120 Tryz.underlying2 (Tryz.zeroValue2 _) hkey
    have hF5 : FndIs t (D'.put (.int .i64 (f : Int)) (.lit (.int .i64 (z + p)))) (ks' ++ [f]) := hF.put HDp.out hnf
    have hcz : c = z + p := by
     rw [Maps.atKey_put_same (k := .int .i64 (f : Int)) hF.map trivial] at hat
     simp only [DataW.lit.injEq, Lit.int.injEq, true_and] at hat
     exact hat.symm
    subst hcz
    have HR : Hid (∃ ks' D', w5.ownsMap Tryz.prog 2 (plainElem (H := Unit) Tryz.prog 2) bm ks'.length D' ∧ FndIs t D' ks' ∧ ∀ x ∈ ks', x ∈ ks ∨ x = f ∨ Rch t f x) := ⟨ks' ++ [f], _, by rw [List.length_append]; exact hown5, hF5, fun x hx => by
     rcases List.mem_append.1 hx with h | h
     ·rcases hsub x h with h | h
      ·exact .inl h
      ·exact .inr (.inr h)
     ·exact .inr (.inl (by simpa using h))⟩
    have k1 : IntKind.i64.wrap (z + p) = z + p := by simp [IntKind.wrap, IntKind.bits, IntKind.signed]; omega
    have d1 : wr.drew.cell? ⟨F, 0, none⟩ = some (.map (some bm)) := e1
    have d4 : wr.drew.cell? ⟨P, 0, none⟩ = some (.slice (some ⟨bf, 0, none⟩) t.funcs.length cfr) := e4
    have d5 : wr.drew.cell? ⟨bf, f, none⟩ = some (.int .i64 z) := hfv
    clear hown hF hG hcj hfc hfcell hvf hOd hown5 hgrow5 hat hF5 hnf hsub e2 e3 HDp hkey hB5 hp hz
    go_wp2_with fail
    go_region
    go_wp2_with fail
    go_ret
    exact ⟨ret_val (by rw [← HZp.out]; rfl), ⟨hBw5, hBl5⟩, HR.out⟩
theorem fromL_any (t : Tr) (F G R P bm GG cap : Nat) (vs : Nat → Value) (vfr : Value) (w0 : World) (hE : LEnv t F G R P bm GG cap vs vfr w0) (hfl : t.funcs.length ≤ 50) (hz : ∀ f, f < t.funcs.length → 0 ≤ fszF t f ∧ fszF t f ≤ 1000000) {n f : Nat} {s : Int} (h : Dp t n f s) : n ≤ 1000 → FromC t F G R P bm w0 f s := by
 induction h using Dp_i with
 | mk n f g hf hg ih => exact fun hn => from_step t F G R P bm GG cap vs vfr w0 hE hfl hz n f g (by omega) hf hg (fun c hc => ih c hc (by omega))
end
section
open Go.RowKit
theorem boundE_no {t : Tr} (h : (checkE t).1 ≠ 0) : boundE t = -1 := by unfold boundE; rw [if_neg (fun h' => h h'.1)]
theorem boundE_big {t : Tr} (h : ∃ x ∈ framesL t, 2032 < x) : boundE t = -1 := by
 obtain ⟨x, hx, hb⟩ := h
 unfold boundE
 rw [if_neg (fun h' => by have := h'.2 x hx; omega)]
theorem boundE_yes {t : Tr} (h : (checkE t).1 = 0) (hb : ∀ x ∈ framesL t, x ≤ 2032) {m : Nat} (hm : fnum t.funcs mainS = some m) : boundE t = deepE t m := by
 unfold boundE
 rw [if_pos ⟨h, hb⟩, hm]
 rfl
end
section
open Go.RowKit
theorem Ints.still {w w' : World} {v : Value} {l : List Int} (h : Ints w v l) (hb : ∀ b, b < w.heap.size → w'.heap[b]? = w.heap[b]?) : Ints w' v l := by
 obtain ⟨a, cap, rfl, h⟩ := h
 refine ⟨a, cap, rfl, fun h0 => ?_⟩
 obtain ⟨b, rfl, hc⟩ := h h0
 exact ⟨b, rfl, fun j hj => (World.cell?_of_block (a := ⟨b, j, none⟩) (hb b (World.block_lt_of_cell? _ _ (hc j hj)))).trans (hc j hj)⟩
set_option maxRecDepth 100000 in
set_option maxHeartbeats 1000000 in
theorem above_any (v : Value) (l : List Int) (w : World) (hl : l.length ≤ 1000) (h : Ints w v l) :
  Calls Tryz.prog 39 #[v] w fun e w' => (∃ r, e = .returned (.int .i64 r) ∧ ((r = -1 ∧ ∀ x ∈ l, x ≤ 2032) ∨ (0 ≤ r ∧ ∃ x ∈ l, 2032 < x))) ∧ Below w.heap.size w w' := by
 obtain ⟨a, c, rfl, hc⟩ := h
 have HC : Hid (0 < l.length → ∃ b, a = some ⟨b, 0, none⟩ ∧ ∀ j (h : j < l.length), w.cell? ⟨b, j, none⟩ = some (.int .i64 l[j])) := hc
 clear hc
 go_enter Tryz.func39, Tryz.ntmps39
 go_wp2_with fail
 go_loopw [7] (fun i wr => ∃ k : Nat, k ≤ l.length ∧ i = .int .i64 k ∧ (∀ j (h : j < l.length), j < k → l[j] ≤ 2032) ∧ wr = w) (fun i _ => l.length - (RowKit.intOf i).toNat)
 case atStart => exact ⟨0, Nat.zero_le _, rfl, fun j _ h => absurd h (Nat.not_lt_zero _), rfl⟩
 case round =>
  obtain ⟨k, hk, rfl, hall, rfl⟩ := hrel
  have HAll : Hid (∀ j (h : j < l.length), j < k → l[j] ≤ 2032) := hall
  clear hall
  by_cases hlt : k < l.length
  ·obtain ⟨b, rfl, hcell⟩ := HC.out (by omega)
   have d0 := hcell k hlt
   have HM : Hid (l[k] ∈ l) := List.getElem_mem hlt
   have HK : Hid (l[k] ≤ 2032 → ∀ j (h : j < l.length), j < k + 1 → l[j] ≤ 2032) := fun h j hj hjk => by
    by_cases e : j = k
    ·subst e; exact h
    ·exact HAll.out j hj (by omega)
   clear hcell HC
   generalize l[k] = z at d0 HM HK
   by_cases hz : 2032 < z
   ·go_wp2_with fail
    go_ret
    exact ⟨⟨_, rfl, .inr ⟨by omega, z, HM.out, hz⟩⟩, Below.refl _ _⟩
   ·go_wp2_with fail
    go_roundw
    case rel => exact ⟨k + 1, by omega, by go_num, HK.out (by omega), trivial⟩
    case measure => simp [RowKit.intOf]; omega
  ·obtain rfl : k = l.length := by omega
   go_wp2_with fail
   go_ret
   exact ⟨⟨_, rfl, .inl ⟨rfl, fun x hx => by obtain ⟨j, hj, rfl⟩ := List.getElem_of_mem hx; exact HAll.out j hj hj⟩⟩, Below.refl _ _⟩
def lsW (t : Tr) (w : World) (GG cap : Nat) (vfr : Value) (t1 t2 t3 t4 : TypeId) : World :=
 ((((w.alloc (.cells #[.slice (some ⟨GG, 0, none⟩) t.funcs.length cap] t1)).alloc (.cells #[vfr] t2)).alloc (.map #[] 0)).alloc (.cells #[.map (some (w.heap.size + 1 + 1))] t3)).alloc (.cells #[fromV (w.heap.size + 1 + 1 + 1) w.heap.size (w.heap.size + 1 + 1 + 1 + 1) (w.heap.size + 1)] t4)
theorem lsW_is (t : Tr) (w : World) (GG cap : Nat) (vs : Nat → Value) (vfr : Value) (t1 t2 t3 t4 : TypeId) (hG : ∀ j, j < t.funcs.length → w.cell? ⟨GG, j, none⟩ = some (vs j) ∧ Ints w (vs j) (callI t.funcs j)) (hI : Ints w vfr (t.funcs.map frameSz)) :
  LEnv t (w.heap.size + 1 + 1 + 1) w.heap.size (w.heap.size + 1 + 1 + 1 + 1) (w.heap.size + 1) (w.heap.size + 1 + 1) GG cap vs vfr (lsW t w GG cap vfr t1 t2 t3 t4) ∧ (lsW t w GG cap vfr t1 t2 t3 t4).ownsMap Tryz.prog 2 (plainElem (H := Unit) Tryz.prog 2) (w.heap.size + 1 + 1) 0 (.map []) ∧ Below w.heap.size w (lsW t w GG cap vfr t1 t2 t3 t4) := by
 obtain ⟨W, hW⟩ : ∃ W, W = lsW t w GG cap vfr t1 t2 t3 t4 := ⟨_, rfl⟩
 rw [← hW]
 have hs : W.heap.size = w.heap.size + 5 := by rw [hW]; simp [lsW]
 have hB : Below w.heap.size w W := by
  rw [hW]
  exact (((((Below.refl _ _).alloc (Nat.le_refl _) _).alloc (by simp) _).alloc (by simp; omega) _).alloc (by simp; omega) _).alloc (by simp; omega) _
 have z0 : W.cell? ⟨w.heap.size, 0, none⟩ = some (.slice (some ⟨GG, 0, none⟩) t.funcs.length cap) := by rw [hW, lsW, World.cell?_alloc_past _ _ _ (by simp only [World.size_alloc]; omega), World.cell?_alloc_past _ _ _ (by simp only [World.size_alloc]; omega), World.cell?_alloc_past _ _ _ (by simp only [World.size_alloc]; omega), World.cell?_alloc_past _ _ _ (by simp only [World.size_alloc]; omega), World.cell?_alloc_at _ _ _ _ rfl]; rfl
 have z1 : W.cell? ⟨w.heap.size + 1, 0, none⟩ = some vfr := by rw [hW, lsW, World.cell?_alloc_past _ _ _ (by simp only [World.size_alloc]; omega), World.cell?_alloc_past _ _ _ (by simp only [World.size_alloc]; omega), World.cell?_alloc_past _ _ _ (by simp only [World.size_alloc]; omega), World.cell?_alloc_at _ _ _ _ (by simp only [World.size_alloc])]; rfl
 have z3 : W.cell? ⟨w.heap.size + 1 + 1 + 1, 0, none⟩ = some (.map (some (w.heap.size + 1 + 1))) := by rw [hW, lsW, World.cell?_alloc_past _ _ _ (by simp only [World.size_alloc]; omega), World.cell?_alloc_at _ _ _ _ (by simp only [World.size_alloc])]; rfl
 have z4 : W.cell? ⟨w.heap.size + 1 + 1 + 1 + 1, 0, none⟩ = some (fromV (w.heap.size + 1 + 1 + 1) w.heap.size (w.heap.size + 1 + 1 + 1 + 1) (w.heap.size + 1)) := by rw [hW, lsW, World.cell?_alloc_at _ _ _ _ (by simp only [World.size_alloc])]; rfl
 refine ⟨fun V hV => ?_, ?_, hB⟩
 ·have hst : ∀ b, b < w.heap.size → V.heap[b]? = w.heap[b]? := fun b hb => (hV.2 b (by omega) (by omega)).trans (hB.block b hb)
  refine ⟨⟨(hV.cell (p := ⟨w.heap.size + 1 + 1 + 1, 0, none⟩) (by simp; omega) (by simp)).trans z3, (hV.cell (p := ⟨w.heap.size + 1 + 1 + 1 + 1, 0, none⟩) (by simp; omega) (by simp; omega)).trans z4, (hV.cell (p := ⟨w.heap.size, 0, none⟩) (by simp; omega) (by simp; omega)).trans z0, (hV.cell (p := ⟨w.heap.size + 1, 0, none⟩) (by simp; omega) (by simp)).trans z1⟩, fun j hj => ?_, hI.still hst⟩
  obtain ⟨h1, h2⟩ := hG j hj
  exact ⟨(World.cell?_of_block (a := ⟨GG, j, none⟩) (hst GG (World.block_lt_of_cell? _ _ h1))).trans h1, h2.still hst⟩
 ·rw [hW, lsW]
  have := World.ownsMap_made ((w.alloc (.cells #[.slice (some ⟨GG, 0, none⟩) t.funcs.length cap] t1)).alloc (.cells #[vfr] t2)) Tryz.prog 2 (plainElem (H := Unit) Tryz.prog 2)
  simp only [World.size_alloc] at this
  exact (this.alloc _).alloc _
set_option maxRecDepth 100000 in
set_option maxHeartbeats 1000000 in
theorem largest_any (t : Tr) (vgr vfr : Value) (w : World) (hG : Graph w vgr t.funcs) (hI : Ints w vfr (t.funcs.map frameSz)) :
  Calls Tryz.prog 40 #[vgr, vfr] w fun e w' => ∃ F G R P bm GG cap vs, e = .returned (fromV F G R P) ∧ LEnv t F G R P bm GG cap vs vfr w' ∧ w'.ownsMap Tryz.prog 2 (plainElem (H := Unit) Tryz.prog 2) bm 0 (.map []) ∧ w.heap.size ≤ bm ∧ Below w.heap.size w w' := by
 obtain ⟨GG, cap, rfl, hg⟩ := hG
 have hmm := @run_makeMap Tryz.prog
 have hmf : ∀ (fn : Fn) (first cap : Array Value) (w : World), (Instr.makeFunc fn first cap).run Tryz.prog w = .ok (.func fn first cap) w := fun _ _ _ _ => rfl
 have hch : ∃ vs : Nat → Value, ∀ j, j < t.funcs.length → w.cell? ⟨GG, j, none⟩ = some (vs j) ∧ Ints w (vs j) (callI t.funcs j) := by
  have h0 : ∀ j, ∃ v, j < t.funcs.length → w.cell? ⟨GG, j, none⟩ = some v ∧ Ints w v (callI t.funcs j) := fun j => by
   by_cases hj : j < t.funcs.length
   ·obtain ⟨v, hv⟩ := hg j hj
    exact ⟨v, fun _ => hv⟩
   ·exact ⟨.nilFunc, fun h => absurd h hj⟩
  exact ⟨fun j => (h0 j).choose, fun j hj => (h0 j).choose_spec hj⟩
 obtain ⟨vs, hvs⟩ := hch
 have HL := fun t1 t2 t3 t4 => lsW_is t w GG cap vs vfr t1 t2 t3 t4 hvs hI
 obtain ⟨af, cf, hvf, -⟩ := hI
 rw [List.length_map] at hvf
 subst hvf
 have HL2 : Hid (∀ t1 t2 t3 t4, LEnv t (w.heap.size + 1 + 1 + 1) w.heap.size (w.heap.size + 1 + 1 + 1 + 1) (w.heap.size + 1) (w.heap.size + 1 + 1) GG cap vs (.slice af t.funcs.length cf) (lsW t w GG cap (.slice af t.funcs.length cf) t1 t2 t3 t4) ∧ (lsW t w GG cap (.slice af t.funcs.length cf) t1 t2 t3 t4).ownsMap Tryz.prog 2 (plainElem (H := Unit) Tryz.prog 2) (w.heap.size + 1 + 1) 0 (.map []) ∧ Below w.heap.size w (lsW t w GG cap (.slice af t.funcs.length cf) t1 t2 t3 t4)) := HL
 clear hg hvs HL
 go_enter Tryz.func40, Tryz.ntmps40
 go_wp2_with fail
 refine bodyPost_ret (v := fromV (w.heap.size + 1 + 1 + 1) w.heap.size (w.heap.size + 1 + 1 + 1 + 1) (w.heap.size + 1)) (by simp [results, Tryz.results40, go_sem, fromV]) rfl ⟨_, _, _, _, _, GG, cap, vs, rfl, (HL2.out _ _ _ _).1, (HL2.out _ _ _ _).2.1, by omega, (HL2.out _ _ _ _).2.2⟩
end
section
open Go.RowKit
theorem look_main {W : World} {b nn : Nat} {D : DataW Unit} {fs : List Fu} (hown : W.ownsMap Tryz.prog 9 (plainElem (H := Unit) Tryz.prog 2) b nn D) (hN : NumIs D fs) {g : Nat} (h : fnum fs mainS = some g) :
  (Instr.lookup 62 (.map (some b)) (.string ⟨#[109, 97, 105, 110]⟩) false).run Tryz.prog W = .ok (.int .i64 (g : Int)) W := by
 have hs : mainS.size ≤ maxLen := by unfold maxLen; decide
 obtain ⟨c, hrun, hat, -⟩ := hown.lookup_int (key := .string mainS) (Maps.string_keyed Tryz.underlying9) Tryz.underlying62 Tryz.underlying2 (Tryz.zeroValue2 _) (WideMaps.keyOf_string_mk Tryz.underlying9 hs)
 rw [hN.val mainS g h] at hat
 simp only [DataW.lit.injEq, Lit.int.injEq, true_and] at hat
 rw [← hat] at hrun
 exact hrun
set_option maxRecDepth 100000 in
set_option maxHeartbeats 4000000 in
theorem boundI_any (t : Tr) (vg vf : Value) (w : World) (hT : Tab w) (hs : smallT t) (hw : wfT t) (hg : Globs w vg t.globals) (hf : Funcs w vf t.funcs) :
  Calls Tryz.prog 15 #[.agg #[vg, vf]] w fun e w' => e = .returned (.int .i64 (boundE t)) ∧ Below w.heap.size w w' := by
 have HFr : Hid (∀ W, Below w.heap.size w W → Calls Tryz.prog 12 #[.agg #[vg, vf]] W fun e w' => ∃ v, e = .returned v ∧ FRow W.heap.size w' v (framesL t) ∧ Below W.heap.size W w') := fun W hW => framesI_any t vg vf W (hT.below hT.size hW) hs hw (hg.below hW) (hf.below hW)
 have HS : Hid (smallT t) := hs
 have HW : Hid (wfT t) := hw
 have HF : Hid (Funcs w vf t.funcs) := hf
 have hlen := framesL_len t
 have hsl := hs.2.1
 obtain ⟨ag, cg, rfl, -⟩ := hg
 obtain ⟨af, cf, rfl, -⟩ := hf
 have hA : Below w.heap.size w (w.alloc (.cells #[.slice ag t.globals.length cg, .slice af t.funcs.length cf] 26)) := (Below.refl _ _).alloc (Nat.le_refl _) _
 clear hs hw hT
 obtain ⟨RES, hRES⟩ : ∃ R, R = boundE t := ⟨_, rfl⟩
 rw [← hRES]
 have HRES : Hid (RES = boundE t) := hRES
 clear hRES
 go_enter Tryz.func15, Tryz.ntmps15
 go_wp2_with fail
 refine (HFr.out _ hA).mono ?_
 rintro e w1 ⟨v1, rfl, hr1, hb1⟩
 simp only [World.size_alloc] at hb1
 have hB1 := one_below hb1
 have HI : Hid (Ints w1 v1 (framesL t)) := own_ints hr1
 obtain ⟨a1, c1, rfl⟩ := hr1.shape
 clear hr1 HFr hA
 by_cases h0 : (framesL t).length = 0
 ·have HB : Hid (RES = -1) := by
   show _ = _
   rw [HRES.out]
   by_cases hc : (checkE t).1 = 0
   ·obtain ⟨m, hm, hl, -⟩ := sound_main hc
    rw [framesL_yes hc, List.length_map] at h0
    omega
   ·exact boundE_no hc
  rw [h0]
  clear HI
  go_wp2_with fail
  go_ret
  exact ⟨ret_val (by rw [HB.out]; rfl), hB1⟩
 have hpos : 0 < (framesL t).length := by omega
 have hc : (checkE t).1 = 0 := by
  by_cases hc : (checkE t).1 = 0
  ·exact hc
  ·rw [framesL_no hc] at hpos; simp at hpos
 have HC : Hid ((checkE t).1 = 0) := hc
 obtain ⟨hfl, hfo⟩ := frOk hc HW.out
 obtain ⟨m, hm, hml, hac⟩ := sound_main hc
 have HM : Hid (fnum t.funcs mainS = some m) := hm
 have HFy : Hid (framesL t = t.funcs.map frameSz) := framesL_yes hc
 have HZ : Hid (∀ f, f < t.funcs.length → 0 ≤ fszF t f ∧ fszF t f ≤ 1000000) := fun f hf => by
  unfold fszF
  have e : t.funcs.getD f ⟨⟨#[]⟩, [], []⟩ = t.funcs[f] := by simp [List.getD, hf]
  rw [e]
  exact frameSz_bd (hfo _ (List.getElem_mem hf))
 obtain ⟨s, hds⟩ := sound_dp hc hm hml hac
 have HDs : Hid (Dp t t.funcs.length m s) := hds
 obtain ⟨x0, x1⟩ := box2 hb1
 have hlw : w.heap.size < w1.heap.size := World.block_lt_of_cell? _ _ x0
 have HAb : Hid (Calls Tryz.prog 39 #[.slice a1 (framesL t).length c1] w1 fun e w' => (∃ r, e = .returned (.int .i64 r) ∧ ((r = -1 ∧ ∀ x ∈ framesL t, x ≤ 2032) ∨ (0 ≤ r ∧ ∃ x ∈ framesL t, 2032 < x))) ∧ Below w1.heap.size w1 w') := above_any _ _ w1 (by omega) HI.out
 have hne : (((framesL t).length : Int) == 0) = false := by simp; intro h; rw [h] at hpos; simp at hpos
 clear h0 hc hfo hac hm hds
 have hll : (framesL t).length = t.funcs.length := by rw [HFy.out, List.length_map]
 generalize hFN : (framesL t).length = n1 at HAb hne hll hpos ⊢
 have HLl : Hid (n1 = t.funcs.length) := hll
 have HFN : Hid ((framesL t).length = n1) := hFN
 obtain ⟨n2, hn2⟩ : ∃ n2 : Nat, n1 = n2 + 1 := ⟨n1 - 1, by omega⟩
 subst hn2
 have hne2 : ((n2 : Int) + 1 == 0) = false := by simp; omega
 clear hll hFN hlen
 go_wp2_with fail
 refine HAb.out.mono ?_
 rintro e w2 ⟨⟨r, rfl, hr⟩, hb2⟩
 have hB2 := hB1.trans (hb2.mono hB1.size)
 have HI2 : Hid (Ints w2 (.slice a1 (n2 + 1) c1) (t.funcs.map frameSz)) := by
  have := HI.out.below hb2
  rw [HFN.out, HFy.out] at this
  exact this
 have y0 := (hb2.cell (p := ⟨w.heap.size, 0, none⟩) hlw).trans x0
 have y1 := (hb2.cell (p := ⟨w.heap.size, 1, none⟩) hlw).trans x1
 have hlw2 : w.heap.size < w2.heap.size := World.block_lt_of_cell? _ _ y0
 clear HAb x0 x1 hb2 HI
 rcases hr with ⟨rfl, hall⟩ | ⟨hr0, hbig⟩
 ·have HB : Hid (RES = s) := by
   show _ = _
   rw [HRES.out, boundE_yes HC.out hall HM.out]
   exact HDs.out.deep
  have HGr : Hid (Calls Tryz.prog 41 #[.agg #[.slice ag t.globals.length cg, .slice af t.funcs.length cf]] w2 fun e w' => ∃ v, e = .returned v ∧ Graph w' v t.funcs ∧ Below w2.heap.size w2 w') := graph_any t.funcs _ _ w2 (by omega) ⟨_, _, _, rfl⟩ HW.out.2 HS.out.2.2 (HF.out.below hB2)
  clear hall
  go_wp2_with fail
  refine HGr.out.mono ?_
  rintro e w3 ⟨vgr, rfl, hgr, hb3⟩
  have hB3 := hB2.trans (hb3.mono hB2.size)
  have HLs : Hid (Calls Tryz.prog 40 #[vgr, .slice a1 (n2 + 1) c1] w3 fun e w' => ∃ F G R P bm GG cap vs, e = .returned (fromV F G R P) ∧ LEnv t F G R P bm GG cap vs (.slice a1 (n2 + 1) c1) w' ∧ w'.ownsMap Tryz.prog 2 (plainElem (H := Unit) Tryz.prog 2) bm 0 (.map []) ∧ w3.heap.size ≤ bm ∧ Below w3.heap.size w3 w') := largest_any t vgr _ w3 hgr (HI2.out.below hb3)
  have z0 := (hb3.cell (p := ⟨w.heap.size, 0, none⟩) hlw2).trans y0
  have z1 := (hb3.cell (p := ⟨w.heap.size, 1, none⟩) hlw2).trans y1
  have hlw3 : w.heap.size < w3.heap.size := World.block_lt_of_cell? _ _ z0
  obtain ⟨GG0, cap0, rfl, -⟩ := hgr
  clear HGr y0 y1 hb3
  go_wp2_with fail
  refine HLs.out.mono ?_
  rintro e w4 ⟨F, G, R, P, bm, GG, cap, vs, rfl, hE, hO, hbm, hb4⟩
  have hB4 := hB3.trans (hb4.mono hB3.size)
  have u0 := (hb4.cell (p := ⟨w.heap.size, 0, none⟩) hlw3).trans z0
  have u1 := (hb4.cell (p := ⟨w.heap.size, 1, none⟩) hlw3).trans z1
  have HO4 : Hid (w4.ownsMap Tryz.prog 2 (plainElem (H := Unit) Tryz.prog 2) bm 0 (.map [])) := hO
  have HFm : Hid (FromC t F G R P bm w4 m s) := fromL_any t F G R P bm GG cap vs _ w4 hE hfl HZ.out HDs.out (by omega)
  have HFn : Hid (Calls Tryz.prog 32 #[.agg #[.slice ag t.globals.length cg, .slice af t.funcs.length cf]] w4 fun e w' => ∃ b D, e = .returned (.map (some b)) ∧ w4.heap.size ≤ b ∧ w'.ownsMap Tryz.prog 9 (plainElem (H := Unit) Tryz.prog 2) b t.funcs.length D ∧ NumIs D t.funcs ∧ Below w4.heap.size w4 w') := fnums_any t.funcs _ _ w4 (by omega) HW.out.2 (HF.out.below hB4)
  clear hE hO HLs z0 z1 hb4
  unfold fromV
  go_wp2_with fail
  refine HFn.out.mono ?_
  rintro e w5 ⟨bn, D, rfl, hbn, hown, hN, hb5⟩
  have hlook := look_main hown hN HM.out
  have hB5 := hB4.trans (hb5.mono hB4.size)
  have HFc : Hid (Calls Tryz.prog 74 #[.int .i64 (m : Int), .pointer (some ⟨F, 0, none⟩), .pointer (some ⟨G, 0, none⟩), .pointer (some ⟨R, 0, none⟩), .pointer (some ⟨P, 0, none⟩)] w5 fun e w' => e = .returned (.int .i64 s) ∧ (But bm w5 w' ∧ Below bm w5 w') ∧ ∃ ks' D', w'.ownsMap Tryz.prog 2 (plainElem (H := Unit) Tryz.prog 2) bm ks'.length D' ∧ FndIs t D' ks' ∧ ∀ x ∈ ks', x ∈ ([] : List Nat) ∨ x = m ∨ Rch t m x) := HFm.out w5 [] (.map []) ((But.refl _ _).below hb5) (map_below HO4.out hb5) (FndIs.nil t)
  have hwb : w.heap.size ≤ bm := by omega
  clear hown hN hb5 HFn HFm HO4 u0 u1
  go_wp2_with fail
  refine HFc.out.mono ?_
  rintro e w6 ⟨rfl, ⟨-, hb6⟩, -⟩
  have hB6 : Below w.heap.size w w6 := hB5.trans (hb6.mono hwb)
  clear HFc hlook hb6
  go_wp2_with fail
  go_ret
  exact ⟨ret_val (by rw [HB.out]; rfl), hB6⟩
 ·have HB : Hid (RES = -1) := by
   show _ = _
   rw [HRES.out]
   exact boundE_big hbig
  have hr1 : (r == -1) = false := by simp; omega
  clear hbig
  go_wp2_with fail
  go_ret
  exact ⟨ret_val (by rw [HB.out]; rfl), hB2⟩
end
end Go.Proofs.YtjhmgjimppflhaaGreatDoor
