import Derived.Test.YtolkpkklinoegaaDoorM34
import Derived.Deep.CutRange
set_option linter.unusedSectionVars false
variable [Inhabited Go.Proofs.YtolkpkklinoegaaDoor.Pick]
namespace Go.Proofs.YtolkpkklinoegaaDoor
set_option linter.unusedVariables false
set_option linter.unusedSimpArgs false
set_option maxRecDepth 100000
set_option maxHeartbeats 16000000
section
open Go.RowKit
set_option maxRecDepth 100000 in
set_option maxHeartbeats 4000000 in
theorem tree_sz {t : Tr} (h : (checkE t).1 = 0) : t.globals.length ≤ 50 ∧ t.funcs.length ≤ 50 ∧ ∀ g ∈ t.globals, 0 ≤ g.size ∧ g.size ≤ 4000 := by
 obtain ⟨h1, -, -⟩ := sound_snd h
 simp only [treeB, Bool.and_eq_true, decide_eq_true_eq, List.all_eq_true] at h1
 refine ⟨h1.1, h1.2.1, fun g hg => ?_⟩
 have := h1.2.2.1 g hg
 simp only [globB, Bool.and_eq_true, decide_eq_true_eq] at this
 exact this.2
theorem main_par {t : Tr} (h : (checkE t).1 = 0) {m : Nat} (hm : fnum t.funcs mainS = some m) : ∀ hl : m < t.funcs.length, ([] : List Int).length = t.funcs[m].params.length := fun hl => by
 obtain ⟨-, h1, -⟩ := sound_snd h
 unfold namesE at h1
 rw [hm] at h1
 split at h1
 ·simp at h1
 ·split at h1
  ·simp at h1
  ·simp only at h1
   have e : t.funcs.getD m ⟨⟨#[]⟩, [], []⟩ = t.funcs[m] := by simp [List.getD, hl]
   rw [e] at h1
   split at h1
   ·simp at h1
   ·simp; omega
theorem GI.drew {w1 w : World} {P : Nat} {gs : List Gl} {vG : Value} {gb : List Nat} (h : GI w1 P gs w vG gb) : GI w1 P gs w.drew vG gb := ⟨h.ll, h.row, h.lw, h.nd, h.rng, h.lo, h.tc.drew⟩
theorem gln_or {g : Gl} (h : 0 ≤ g.size ∧ g.size ≤ 4000) : (gln g : Int) = (if g.size = 0 then 1 else g.size) ∧ gln g ≤ 4000 ∧ 1 ≤ gln g := by
 unfold gln
 split
 ·simp
 ·refine ⟨by omega, by omega, by omega⟩
theorem call_end {t : Tr} {fr : List Int} {n f : Nat} {vs : List Int} {s : ES} {r : ER} {s' : ES} (h : Ev t fr n (.c f vs) s r s') : (∃ v, r = .val v) ∨ ∃ c, r = .out c ∧ c ≠ 0 := by
 have ho := h.outc
 cases h using Ev_i with
 | run m _ _ _ hf rb z h1 =>
  cases rb using ER.cs with
  | val v => exact .inl ⟨v, rfl⟩
  | on => exact .inl ⟨0, rfl⟩
  | ret v => exact .inl ⟨v, rfl⟩
  | out c => exact .inr ⟨c, rfl, by rcases ho c rfl with h | h <;> omega⟩
def EvA (r : ER) (s' : ES) (F : Int) (w : World) (e : Ending) (w' : World) : Prop := ∃ vO, e = .returned (.agg #[.int .i64 (stE r), vO, .int .i64 (valR r), .int .i64 (F - s'.u), .int .i64 s'.d]) ∧ w'.ownsRow w.heap.size 2 1 vO s'.o.length (s'.o.map (Value.int .i64)) ∧ Below w.heap.size w w'
set_option maxRecDepth 100000 in
set_option maxHeartbeats 8000000 in
theorem evalG_go (t : Tr) (vg vf vI vFr : Value) (i fr : List Int) (F : Int) (w : World) (hck : ∀ X, Below w.heap.size w X → Calls Tryd.prog 21 #[.agg #[vg, vf]] X fun e w' => (∃ x y, e = .returned (.agg #[.int .i64 (checkE t).1, .int .i64 x, .int .i64 y])) ∧ Below X.heap.size X w') (hg : Globs w vg t.globals) (hf : Funcs w vf t.funcs) (hI : InN w vI i) (hFr : InN w vFr fr) (hil : i.length ≤ 1048576) (hfl : fr.length ≤ 1048576) (hfs : t.funcs.length ≤ 1048576)
  (hck0 : (checkE t).1 = 0) (hi0 : i.length ≤ 1000) (hw0 : i.all inBb = true) (hF : 0 ≤ F ∧ F ≤ 100000) (hfe2 : fr.length = t.funcs.length) (hgood : fr.all frB = true) {m n : Nat} {r : ER} {s' : ES} (hm : fnum t.funcs mainS = some m) (hEv : Ev t fr n (.c m []) (s00 t i F) r s') :
  Calls Tryd.prog 9 #[.agg #[vg, vf], vI, .int .i64 F, vFr] w fun e w' => EvA r s' F w e w' := by
 have HCk := hide hck
 have HI := hide hI
 have HGl := hide hg
 have HFn := hide hf
 have HFe := hide hfe2
 have HCk0 := hide hck0
 have HW0 := hide hw0
 have HFr0 := hide hFr
 have HGood := hide hgood
 obtain ⟨ag, cg, rfl, -⟩ := hg
 obtain ⟨af, cf, rfl, -⟩ := hf
 obtain ⟨ai, ci, rfl, hi1, hi2, -⟩ := hI
 obtain ⟨ar, cr, rfl, hr1, hr2, -⟩ := hFr
 obtain ⟨W1, hW1⟩ : ∃ W1, W1 = (w.alloc (.cells #[.slice ag t.globals.length cg, .slice af t.funcs.length cf] 41)).alloc (.cells #[.int .i64 0, .slice none 0 0, .int .i64 0, .int .i64 0, .int .i64 0] 44) := ⟨_, rfl⟩
 have hb1 : Below w.heap.size w W1 := by rw [hW1]; exact ((Below.refl _ _).alloc (Nat.le_refl _) _).alloc (by simp) _
 have HB1 := hide hb1
 clear hck hb1 hgood
 go_enter Tryd.func9, Tryd.ntmps9
 go_wp2_with fail
 rw [← hW1]
 have hz1 : W1.heap.size = w.heap.size + 2 := by rw [hW1, World.size_alloc, World.size_alloc]
 have hfr : FrC W1 (w.heap.size + 1) [.int .i64 0, .slice none 0 0, .int .i64 0, .int .i64 0, .int .i64 0] := by
  rw [hW1]
  have := box_fr (w.alloc (.cells #[.slice ag t.globals.length cg, .slice af t.funcs.length cf] 41)) #[.int .i64 0, .slice none 0 0, .int .i64 0, .int .i64 0, .int .i64 0] 44 (by decide)
  rw [World.size_alloc] at this
  exact this
 have hft : FrC W1 w.heap.size [.slice ag t.globals.length cg, .slice af t.funcs.length cf] := by
  rw [hW1]
  exact (box_fr w #[.slice ag t.globals.length cg, .slice af t.funcs.length cf] 41 (by show 2 ≤ 1000; omega)).below ((Below.refl _ _).alloc (Nat.le_refl _) _)
 have HFr := hide hfr
 have HFt := hide hft
 clear hW1 hfr hft
 obtain ⟨M, hM⟩ : ∃ M, M = w.heap.size := ⟨_, rfl⟩
 rw [← hM] at HFr HFt hz1 ⊢
 have HM := hide hM
 clear hM
 refine (HCk.out W1 HB1.out).mono ?_
 rintro e w2 ⟨⟨x, y, rfl⟩, hb2⟩
 have hfr2 := HFr.out.below hb2
 have hft2 := HFt.out.below hb2
 have y0 := (hfr2 0 _ rfl).1
 have z0 := (hfr2 0 _ rfl).2
 have y1 := (hfr2 1 _ rfl).1
 have z1 := (hfr2 1 _ rfl).2
 have y2 := (hfr2 2 _ rfl).1
 have z2 := (hfr2 2 _ rfl).2
 have y3 := (hfr2 3 _ rfl).1
 have z3 := (hfr2 3 _ rfl).2
 have y4 := (hfr2 4 _ rfl).1
 have z4 := (hfr2 4 _ rfl).2
 have HF5 := hide (((((hfr2.set 0 (.int .i64 0)).set 1 (.slice none 0 0)).set 2 (.int .i64 0)).set 3 (.int .i64 0)).set 4 (.int .i64 0))
 have hbw2 : Below w.heap.size w w2 := HB1.out.trans (hb2.mono HB1.out.size)
 have HB2 := hide hbw2
 have hfe := fld_errE
 rw [hck0]
 have HFt2 := hide hft2
 have Hfr2 := hide hfr2
 clear hfr2 hft2 hb2 hbw2
 have hft := HFt2.out
 have x1 := (hft 1 _ rfl).1
 have h1' : ¬ (1000 : Int) < (i.length : Int) := by omega
 go_wp2_with fail
 have hw2 : Below w.heap.size w w2 := HB2.out
 refine (wordsG_any _ i w2 ⟨ai, ci, rfl, hi1, hi2, ?_⟩ hil).mono ?_
 ·intro hpos
  obtain ⟨a', c', e', -, -, h3⟩ := HI.out
  simp only [Value.slice.injEq] at e'
  obtain ⟨rfl, -, rfl⟩ := e'
  obtain ⟨b, off, rfl, hc⟩ := h3 hpos
  exact ⟨b, off, rfl, fun j hj => (hw2.cell (p := ⟨b, _, none⟩) (World.block_lt_of_cell? _ _ (hc j hj))).trans (hc j hj)⟩
 rintro e w3 ⟨rfl, hb3⟩
 have hf3 := Hfr2.out.below hb3
 have hg3 := HFt2.out.below hb3
 have HB3 := hide (HB2.out.trans (hb3.mono HB2.out.size))
 clear x1 y0 y1 y2 y3 y4 z0 z1 z2 z3 z4 hw2
 have x1 := (hg3 1 _ rfl).1
 have x0 := (hg3 0 _ rfl).1
 have y0 := (hf3 0 _ rfl).1
 have z0 := (hf3 0 _ rfl).2
 have y1 := (hf3 1 _ rfl).1
 have z1 := (hf3 1 _ rfl).2
 have y2 := (hf3 2 _ rfl).1
 have z2 := (hf3 2 _ rfl).2
 have y3 := (hf3 3 _ rfl).1
 have z3 := (hf3 3 _ rfl).2
 have y4 := (hf3 4 _ rfl).1
 have z4 := (hf3 4 _ rfl).2
 have HF6 := hide (((((hf3.set 0 (.int .i64 0)).set 1 (.slice none 0 0)).set 2 (.int .i64 0)).set 3 (.int .i64 0)).set 4 (.int .i64 0))
 have HG3 := hide hg3
 have HF3 := hide hf3
 clear hf3 hg3 hb3 hft
 rw [hw0]
 go_wp2_with fail
 refine (in_any _ _ _ _).mono ?_
 rintro e w4 ⟨rfl, hw4⟩
 rw [hw4]
 clear hw4
 have hdec : decide ((0 : Int) ≤ F ∧ F ≤ 100000) = true := decide_eq_true hF
 rw [hdec]
 clear hdec
 obtain ⟨fl, hfle⟩ : ∃ fl, fl = fr.length := ⟨_, rfl⟩
 have HFl := hide hfle
 rw [← hfe2] at x1 ⊢
 rw [← hfle] at x1 hfl hr1 ⊢
 have hne' : ((fl : Int) != (fl : Int)) = false := by simp
 clear hfle hfe2
 go_wp2_with fail
 go_loopw [9] (fun j wr => ∃ k : Nat, k ≤ fl ∧ j = .int .i64 (k : Int) ∧ (fr.take k).all frB = true ∧ wr = w3) (fun j _ => fl - (RowKit.intOf j).toNat)
 case atStart => exact ⟨0, Nat.zero_le _, rfl, rfl, rfl⟩
 case round =>
  obtain ⟨k, hk, rfl, ha, hwr⟩ := hrel
  rw [hwr]
  clear hwr
  have HAl := hide ha
  clear ha
  by_cases hlt : k < fl
  ·have hki : (k : Int) < (fl : Int) := by omega
   have hkl : k < fr.length := by rw [← HFl.out]; exact hlt
   obtain ⟨a', c', e', -, -, h3⟩ := HFr0.out
   simp only [Value.slice.injEq] at e'
   obtain ⟨rfl, -, rfl⟩ := e'
   obtain ⟨b, off, rfl, hc⟩ := h3 (by omega)
   have hck := (HB3.out.cell (p := ⟨b, _, none⟩) (World.block_lt_of_cell? _ _ (hc k hkl))).trans (hc k hkl)
   obtain ⟨x', hx⟩ : ∃ x', x' = fr[k] := ⟨_, rfl⟩
   rw [← hx] at hck
   have HX := hide hx
   clear hx hc h3
   go_wp2_with fail
   refine (in_any _ _ _ _).mono ?_
   rintro e w4 ⟨rfl, hw4⟩
   rw [hw4]
   clear hw4
   by_cases hb : 0 ≤ x' ∧ x' ≤ 1000000
   ·have hdec : decide ((0 : Int) ≤ x' ∧ x' ≤ 1000000) = true := decide_eq_true hb
    rw [hdec]
    have HTk : Hid ((fr.take (k + 1)).all frB = true) := by show _ = _; rw [List.take_succ_eq_append_getElem hkl, List.all_append, HAl.out]; simp [← HX.out, frB, hb]
    clear hdec hb
    go_wp2_with fail
    go_roundw
    case rel => exact ⟨k + 1, by omega, by go_num, HTk.out, trivial⟩
    case measure => simp [RowKit.intOf]; omega
   ·exfalso
    have := HGood.out
    rw [List.all_eq_true] at this
    have h2 := this fr[k] (List.getElem_mem hkl)
    rw [← HX.out] at h2
    simp only [frB, decide_eq_true_eq] at h2
    exact hb h2
  ·have hki : ¬ (k : Int) < (fl : Int) := by omega
   clear HF6 HAl HF5
   go_wp2_with fail
   obtain ⟨W4, hW4⟩ : ∃ W4, W4 = w3.alloc (.cells #[.slice ag t.globals.length cg, .slice af fl cf, .slice none 0 0, .slice none 0 0, .slice ai i.length ci, .slice none 0 0, .int .i64 F, .int .i64 0, .int .i64 0, .bool false, .int .i64 0, .slice ar fl cr, .int .i64 0, .int .i64 0] 69) := ⟨_, rfl⟩
   have hb4 : Below w3.heap.size w3 W4 := by rw [hW4]; exact (Below.refl _ _).alloc (Nat.le_refl _) _
   have hz4 : W4.heap.size = w3.heap.size + 1 := by rw [hW4, World.size_alloc]
   have hbx : FrC W4 w3.heap.size [.slice ag t.globals.length cg, .slice af fl cf, .slice none 0 0, .slice none 0 0, .slice ai i.length ci, .slice none 0 0, .int .i64 F, .int .i64 0, .int .i64 0, .bool false, .int .i64 0, .slice ar fl cr, .int .i64 0, .int .i64 0] := by
    rw [hW4]
    exact box_fr w3 _ _ (by show 14 ≤ 1000; omega)
   have hM1 : M + 1 < w3.heap.size := World.block_lt_of_cell? _ _ y0
   rw [← hW4]
   clear hW4
   obtain ⟨P, hP⟩ : ∃ P, P = w3.heap.size := ⟨_, rfl⟩
   rw [← hP] at hz4 hbx hM1 ⊢
   have HB4 := hide (HB3.out.trans (hb4.mono HB3.out.size))
   have HG4 := hide (HG3.out.below hb4)
   have HF4 := hide (HF3.out.below hb4)
   have HBx := hide hbx
   have HZ4 := hide hz4
   have hwP : w.heap.size ≤ P := by rw [hP]; exact HB3.out.size
   clear hP hb4 hbx HG3 HF3 x0 x1 y0 y1 y2 y3 y4 z0 z1 z2 z3 z4 HB2 HFt2 Hfr2 HCk HFr HFt HB1 hz1 hz4
   go_loopw [11] (fun j wr => ∃ (k : Nat) (gb : List Nat) (xa : Option Addr) (xc : Nat), k ≤ t.globals.length ∧ j = .int .i64 (k : Int) ∧ GI W4 P (t.globals.take k) wr (.slice xa k xc) gb ∧ FrC wr P [.slice ag t.globals.length cg, .slice af fl cf, .slice xa k xc, .slice none 0 0, .slice ai i.length ci, .slice none 0 0, .int .i64 F, .int .i64 0, .int .i64 0, .bool false, .int .i64 0, .slice ar fl cr, .int .i64 0, .int .i64 0]) (fun j _ => t.globals.length - (RowKit.intOf j).toNat)
   case atStart => exact ⟨0, [], none, 0, Nat.zero_le _, rfl, GI.start, HBx.out⟩
   case round =>
    clear HBx
    obtain ⟨k2, gb, xa, xc, hk2, rfl, hGI, hbx⟩ := hrel
    have hP4 : P < W4.heap.size := by rw [HZ4.out]; omega
    have hM4 : M + 1 < W4.heap.size := by omega
    have hMP : M ≠ P := by omega
    have hM1P : M + 1 ≠ P := by omega
    have HGI := hide hGI
    have HBw := hide hbx
    have HGw := hide (HG4.out.tcs (by omega : M < W4.heap.size) hGI.tc hMP)
    have HFw := hide (HF4.out.tcs hM4 hGI.tc hM1P)
    have hbw : Below w.heap.size w wr := hGI.tc.below HB4.out HB4.out.size (fun k hk => by have e : k = P := hk; omega)
    have HBW := hide hbw
    have hws : W4.heap.size ≤ wr.heap.size := hGI.tc.size
    have hgl0 : t.globals.length ≤ 50 := (tree_sz HCk0.out).1
    clear hGI hbx
    by_cases hlt : k2 < t.globals.length
    ·have hki2 : (k2 : Int) < (t.globals.length : Int) := by omega
     obtain ⟨a', c', e', -, -, h3⟩ := HGl.out
     simp only [Value.slice.injEq] at e'
     obtain ⟨rfl, -, rfl⟩ := e'
     obtain ⟨bg, og, rfl, hc⟩ := h3 (by omega)
     obtain ⟨c0, c1⟩ := hc k2 hlt
     have hbg : bg < w.heap.size := World.block_lt_of_cell? _ _ c0
     have q0 := (hbw.cell (p := ⟨bg, og + k2 * 2, none⟩) hbg).trans c0
     have q1 := (hbw.cell (p := ⟨bg, og + k2 * 2 + 1, none⟩) hbg).trans c1
     have hgs := (tree_sz HCk0.out).2.2 _ (List.getElem_mem hlt)
     have HTk : Hid (t.globals.take (k2 + 1) = t.globals.take k2 ++ [t.globals[k2]]) := List.take_succ_eq_append_getElem hlt
     have htl : (t.globals.take k2).length = k2 := by rw [List.length_take]; omega
     obtain ⟨gk, hgk⟩ : ∃ gk, gk = t.globals[k2] := ⟨_, rfl⟩
     rw [← hgk] at c0 c1 q0 q1 hgs HTk
     obtain ⟨hn1, hn2, hn3⟩ := gln_or hgs
     obtain ⟨N, hN⟩ : ∃ N, N = gln gk := ⟨_, rfl⟩
     have HN := hide hN
     rw [← hN] at hn1 hn2 hn3
     have m0 := (HGw.out 0 _ rfl).1
     have HTl := hide htl
     clear hc h3 hgk htl hN
     go_upto_if 76 with fail
     go_cut [12] from 62 to 94 (fun v W => v = .int .i64 (N : Int) ∧ W = wr)
     case first =>
      by_cases hz : gk.size = 0
      ·rw [if_pos hz] at hn1
       go_wp2_with fail
       go_meet
       case rel => exact ⟨by rw [hn1], rfl⟩
      ·rw [if_neg hz] at hn1
       have hz' : (gk.size == 0) = false := by simpa using hz
       go_wp2_with fail
       go_meet
       case rel => exact ⟨by rw [hn1], rfl⟩
     case rest =>
      obtain ⟨rfl, hwc⟩ := hcut
      rw [hwc]
      clear hwc hn1
      go_upto_region 15 with fail
      obtain ⟨W5, hW5⟩ : ∃ W5, W5 = wr.drew := ⟨_, rfl⟩
      have hb5 : Below wr.heap.size wr W5 := by rw [hW5]; exact (Below.refl _ _).drew
      have hG5 : GI W4 P (t.globals.take k2) W5 (.slice xa k2 xc) gb := by rw [hW5]; exact HGI.out.drew
      obtain ⟨W6, hW6⟩ : ∃ W6, W6 = W5.alloc (.cells (Array.replicate N (.int .i64 0)) 2) := ⟨_, rfl⟩
      obtain ⟨W7, hW7⟩ : ∃ W7, W7 = W6.alloc (.cells #[.string gk.name, .slice (some ⟨W5.heap.size, 0, none⟩) N N] 71) := ⟨_, rfl⟩
      obtain ⟨va, vn, vc, w8, r8, hG8, t8, hvn⟩ := glob_run (W := W7) gk hG5 hP4 (by rw [← HN.out]; omega) (by rw [HTl.out]; have := (tree_sz HCk0.out).1; omega) (by rw [hW7, hW6, HN.out])
      rw [HTl.out] at hvn
      have hb6 : Below W5.heap.size W5 W6 := by rw [hW6]; exact (Below.refl _ _).alloc (Nat.le_refl _) _
      have hb7 : Below W5.heap.size W5 W7 := by rw [hW7]; exact hb6.alloc hb6.size _
      have hz6 : W6.heap.size = W5.heap.size + 1 := by rw [hW6, World.size_alloc]
      have hw5 : wr.heap.size ≤ W5.heap.size := hb5.size
      have hold : ∀ X, Below wr.heap.size wr X → (X.cell? ⟨P, 2, none⟩ = some (.slice xa k2 xc) ∧ X.cell? ⟨M, 0, none⟩ = some (.slice (some ⟨bg, og, none⟩) t.globals.length cg) ∧ X.cell? ⟨bg, og + k2 * 2, none⟩ = some (.string gk.name)) := fun X hX => ⟨((HBw.out.below hX) 2 _ rfl).1, ((HGw.out.below hX) 0 _ rfl).1, (hX.cell (p := ⟨bg, _, none⟩) (World.block_lt_of_cell? _ _ q0)).trans q0⟩
      have HS5 := hide (hold W5 hb5)
      have HS6 := hide (hold W6 (hb5.trans (hb6.mono hw5)))
      have hS7 := hold W7 (hb5.trans (hb7.mono hw5))
      have HS7 := hide hS7
      have hvb : ∀ g, (Value.slice xa k2 xc).ownBlock = some g → W4.heap.size ≤ g := fun g hg => (World.ownsRow.lt hG5.row g hg).1
      have hz7 : wr.heap.size ≤ W7.heap.size := Nat.le_trans hw5 hb7.size
      have hn8 : ∀ g, g < W4.heap.size → ∀ o, w8.cell? ⟨g, o, none⟩ = W7.cell? ⟨g, o, none⟩ := fun g hg o => World.cell?_of_block (t8.block g (by omega) (fun e => by have := hvb g e; omega))
      have hS8 : w8.cell? ⟨P, 2, none⟩ = some (.slice xa k2 xc) ∧ w8.cell? ⟨M, 0, none⟩ = some (.slice (some ⟨bg, og, none⟩) t.globals.length cg) ∧ w8.cell? ⟨bg, og + k2 * 2, none⟩ = some (.string gk.name) := ⟨(hn8 P hP4 _).trans hS7.1, (hn8 M (by omega) _).trans hS7.2.1, (hn8 bg (by have := HB4.out.size; omega) _).trans hS7.2.2⟩
      have HS8 := hide hS8
      have hfP : FrC w8 P _ := (HBw.out.below (hb5.trans (hb7.mono hw5))).tcs (by omega) t8 (fun e => by have := hvb P e; omega)
      have x8 := (hfP 2 _ rfl).1
      have f8 := (hfP 2 _ rfl).2
      have HEnd : Hid (GI W4 P (t.globals.take (k2 + 1)) (w8.setCell ⟨P, 2, none⟩ (.slice va (k2 + 1) vc)) (.slice va (k2 + 1) vc) (gb ++ [W5.heap.size]) ∧ FrC (w8.setCell ⟨P, 2, none⟩ (.slice va (k2 + 1) vc)) P [.slice (some ⟨bg, og, none⟩) t.globals.length cg, .slice af fl cf, .slice va (k2 + 1) vc, .slice none 0 0, .slice ai i.length ci, .slice none 0 0, .int .i64 F, .int .i64 0, .int .i64 0, .bool false, .int .i64 0, .slice ar fl cr, .int .i64 0, .int .i64 0]) := by
       rw [hvn] at hG8
       exact ⟨by rw [HTk.out]; exact hG8, hfP.set 2 _⟩
      rw [hvn] at r8
      have Hr8 := hide r8
      have HW5 := hide hW5
      have HW6 := hide hW6
      have HW7 := hide hW7
      have HZ6 := hide hz6
      obtain ⟨kk, hkk⟩ : ∃ kk, kk = k2 + 1 := ⟨_, rfl⟩
      rw [← hkk] at Hr8 HEnd
      have HKK := hide hkk
      have hNi : (0 : Int) ≤ (N : Int) := by omega
      clear hkk hG8 r8 t8 hb5 hb6 hb7 hG5 hW6 hW7 hz6 hold hS7 hS8 hn8 hvb hvn hW5 c0 c1 q0 q1 hbw hfP m0
      have HS := HS5
      refine wp_region_E 18 (fun X => X.cell? ⟨P, 2, none⟩ = some (.slice xa k2 xc) ∧ X.cell? ⟨M, 0, none⟩ = some (.slice (some ⟨bg, og, none⟩) t.globals.length cg) ∧ X.cell? ⟨bg, og + k2 * 2, none⟩ = some (.string gk.name)) (by kernel_rfl) ?_
      rw [← HW5.out]
      refine wpAnyE_take (i := 0) (v := ?_) [16, 17, 18] rfl (by kernel_rfl) (by kernel_rfl) (by kernel_rfl) (by kernel_rfl) (fun _ _ _ h => h) (Or.inl ⟨by rfl, ?_⟩) HS.out ?_
      rotate_left
      ·(intro W hSW; (try dsimp only at hSW); go_simp; try with_reducible rfl)
      try simp only [Act.put, List.setIfInBounds_toArray, List.set_cons_zero, List.set_cons_succ]
      refine wpAnyE_take (i := 1) (v := ?_) [2, 3, 4, 15, 18] rfl (by kernel_rfl) (by kernel_rfl) (by kernel_rfl) (by kernel_rfl) (fun _ _ _ h => h) (Or.inl ⟨by rfl, ?_⟩) HS.out ?_
      rotate_left
      ·(intro W hSW; (try dsimp only at hSW); go_simp; try with_reducible rfl)
      try simp only [Act.put, List.setIfInBounds_toArray, List.set_cons_zero, List.set_cons_succ]
      refine wpAnyE_take (i := 2) (v := ?_) [3, 4, 15, 18] rfl (by kernel_rfl) (by kernel_rfl) (by kernel_rfl) (by kernel_rfl) (fun _ _ _ h => h) (Or.inl ⟨by rfl, ?_⟩) HS.out ?_
      rotate_left
      ·(intro W hSW; (try dsimp only at hSW); go_simp; try with_reducible rfl)
      try simp only [Act.put, List.setIfInBounds_toArray, List.set_cons_zero, List.set_cons_succ]
      refine wpAnyE_take (i := 3) (v := ?_) [4, 15, 18] rfl (by kernel_rfl) (by kernel_rfl) (by kernel_rfl) (by kernel_rfl) (fun _ _ _ h => h) (Or.inl ⟨by rfl, ?_⟩) HS.out ?_
      rotate_left
      ·(intro W hSW; (try dsimp only at hSW); go_simp; try with_reducible rfl)
      try simp only [Act.put, List.setIfInBounds_toArray, List.set_cons_zero, List.set_cons_succ]
      refine wpAnyE_take (i := 4) (v := ?_) [15, 18] rfl (by kernel_rfl) (by kernel_rfl) (by kernel_rfl) (by kernel_rfl) (fun _ _ _ h => h) (Or.inl ⟨by rfl, ?_⟩) HS.out ?_
      rotate_left
      ·(intro W hSW; (try dsimp only at hSW); go_simp; try with_reducible rfl)
      try simp only [Act.put, List.setIfInBounds_toArray, List.set_cons_zero, List.set_cons_succ]
      refine wpAnyE_take (i := 5) (v := ?_) [6, 8, 9, 10, 13, 14, 15, 18] rfl (by kernel_rfl) (by kernel_rfl) (by kernel_rfl) (by kernel_rfl) (fun _ _ _ h => h) (Or.inl ⟨by rfl, ?_⟩) HS.out ?_
      rotate_left
      ·(intro W hSW; (try dsimp only at hSW); go_simp; try with_reducible rfl)
      try simp only [Act.put, List.setIfInBounds_toArray, List.set_cons_zero, List.set_cons_succ]
      refine wpAnyE_take (i := 6) (v := ?_) [8, 9, 10, 13, 14, 15, 18] rfl (by kernel_rfl) (by kernel_rfl) (by kernel_rfl) (by kernel_rfl) (fun _ _ _ h => h) (Or.inl ⟨by rfl, ?_⟩) HS.out ?_
      rotate_left
      ·(intro W hSW; (try dsimp only at hSW); go_simp; try with_reducible rfl)
      try simp only [Act.put, List.setIfInBounds_toArray, List.set_cons_zero, List.set_cons_succ]
      refine wpAnyE_take (i := 7) (v := ?_) [8, 9, 10, 13, 14, 15, 18] rfl (by kernel_rfl) (by kernel_rfl) (by kernel_rfl) (by kernel_rfl) (fun _ _ _ h => h) (Or.inl ⟨by rfl, ?_⟩) HS.out ?_
      rotate_left
      ·(intro W hSW; (try dsimp only at hSW); go_simp; try with_reducible rfl)
      try simp only [Act.put, List.setIfInBounds_toArray, List.set_cons_zero, List.set_cons_succ]
      refine wpAnyE_take (i := 8) (v := ?_) [9, 10, 13, 14, 15, 18] rfl (by kernel_rfl) (by kernel_rfl) (by kernel_rfl) (by kernel_rfl) (fun _ _ _ h => h) (Or.inl ⟨by rfl, ?_⟩) HS.out ?_
      rotate_left
      ·(intro W hSW; (try dsimp only at hSW); go_simp; try with_reducible rfl)
      try simp only [Act.put, List.setIfInBounds_toArray, List.set_cons_zero, List.set_cons_succ]
      refine wpAnyE_take (i := 9) (v := ?_) [10, 13, 14, 15, 18] rfl (by kernel_rfl) (by kernel_rfl) (by kernel_rfl) (by kernel_rfl) (fun _ _ _ h => h) (Or.inl ⟨by rfl, ?_⟩) HS.out ?_
      rotate_left
      ·(intro W hSW; (try dsimp only at hSW); go_simp; try with_reducible rfl)
      try simp only [Act.put, List.setIfInBounds_toArray, List.set_cons_zero, List.set_cons_succ]
      refine wpAnyE_take (i := 10) (v := ?_) [13, 14, 15, 18] rfl (by kernel_rfl) (by kernel_rfl) (by kernel_rfl) (by kernel_rfl) (fun _ _ _ h => h) (Or.inl ⟨by rfl, ?_⟩) HS.out ?_
      rotate_left
      ·(intro W hSW; (try dsimp only at hSW); go_simp; try with_reducible rfl)
      try simp only [Act.put, List.setIfInBounds_toArray, List.set_cons_zero, List.set_cons_succ]
      refine wpAnyE_take (i := 11) (v := ?_) [12, 13, 14, 15, 18] rfl (by kernel_rfl) (by kernel_rfl) (by kernel_rfl) (by kernel_rfl) (fun _ _ _ h => h) (Or.inl ⟨by rfl, ?_⟩) HS.out ?_
      rotate_left
      ·(intro W hSW; (try dsimp only at hSW); go_simp; try with_reducible rfl)
      try simp only [Act.put, List.setIfInBounds_toArray, List.set_cons_zero, List.set_cons_succ]
      clear HS
      have hmk := mk_i64 N hn2 W5
      refine wpAnyE_one (i := 12) (by kernel_rfl) rfl (fun K hK => ?_)
      go_simp
      rw [← HW6.out]
      refine hK.out _ _ (fun _ => HS6.out) ?_
      clear hK K hmk
      try simp only [Act.put, List.setIfInBounds_toArray, List.set_cons_zero, List.set_cons_succ]
      have HS := HS6
      refine wpAnyE_take (i := 13) (v := ?_) [14, 15, 18] rfl (by kernel_rfl) (by kernel_rfl) (by kernel_rfl) (by kernel_rfl) (fun _ _ _ h => h) (Or.inl ⟨by rfl, ?_⟩) HS.out ?_
      rotate_left
      ·(intro W hSW; (try dsimp only at hSW); go_simp; try with_reducible rfl)
      try simp only [Act.put, List.setIfInBounds_toArray, List.set_cons_zero, List.set_cons_succ]
      clear HS
      refine wpAnyE_one (i := 14) (by kernel_rfl) rfl (fun K hK => ?_)
      go_simp
      rw [← HW7.out, HZ6.out]
      refine hK.out _ _ (fun _ => HS7.out) ?_
      clear hK K
      try simp only [Act.put, List.setIfInBounds_toArray, List.set_cons_zero, List.set_cons_succ]
      refine wpAnyE_one (i := 15) (by kernel_rfl) rfl (fun K hK => ?_)
      refine step_appR rfl (.tmp 81) (.tmp 91) 67 rfl (.slice xa k2 xc) (.slice (some ⟨W5.heap.size + 1, 0, none⟩) 1 1) (.slice va kk vc) w8 rfl rfl Hr8.out ?_
      refine hK.out _ _ (fun _ => HS8.out) ?_
      clear hK K
      try simp only [Act.put, List.setIfInBounds_toArray, List.set_cons_zero, List.set_cons_succ]
      have HS := HS8
      refine wpAnyE_take (i := 16) (v := ?_) [17, 18] rfl (by kernel_rfl) (by kernel_rfl) (by kernel_rfl) (by kernel_rfl) (fun _ _ _ h => h) (Or.inl ⟨by rfl, ?_⟩) HS.out ?_
      rotate_left
      ·(intro W hSW; (try dsimp only at hSW); go_simp; try with_reducible rfl)
      try simp only [Act.put, List.setIfInBounds_toArray, List.set_cons_zero, List.set_cons_succ]
      refine wpAnyE_take (i := 17) (v := ?_) [18] rfl (by kernel_rfl) (by kernel_rfl) (by kernel_rfl) (by kernel_rfl) (fun _ _ _ h => h) (Or.inl ⟨by rfl, ?_⟩) HS.out ?_
      rotate_left
      ·(intro W hSW; (try dsimp only at hSW); go_simp; try with_reducible rfl)
      try simp only [Act.put, List.setIfInBounds_toArray, List.set_cons_zero, List.set_cons_succ]
      clear HS
      refine wpAnyE_one (i := 18) (by kernel_rfl) rfl (fun K hK => ?_)
      go_simp
      refine hK.out _ _ (fun h => absurd rfl h) ?_
      clear hK K
      refine wpAnyE_done (by kernel_rfl) ?_ _
      go_wp2_with fail
      go_roundw
      case rel =>
       have := HEnd.out
       rw [HKK.out] at this ⊢
       exact ⟨k2 + 1, _, va, vc, by omega, by go_num, this.1, this.2⟩
      case measure => simp [RowKit.intOf]; omega
    ·have hki2 : ¬ (k2 : Int) < (t.globals.length : Int) := by omega
     have hkk : k2 = t.globals.length := by omega
     have hGa : GI W4 P t.globals wr (.slice xa t.globals.length xc) gb := by
      have := HGI.out
      rw [hkk, List.take_length] at this
      exact this
     have hBa : FrC wr P [.slice ag t.globals.length cg, .slice af fl cf, .slice xa t.globals.length xc, .slice none 0 0, .slice ai i.length ci, .slice none 0 0, .int .i64 F, .int .i64 0, .int .i64 0, .bool false, .int .i64 0, .slice ar fl cr, .int .i64 0, .int .i64 0] := by
      have := HBw.out
      rw [hkk] at this
      exact this
     have hflE : fl = t.funcs.length := HFl.out.trans HFe.out
     have hFn : Funcs w (.slice af fl cf) t.funcs := by rw [hflE]; exact HFn.out
     have hFr1 : InN w (.slice ar fl cr) fr := by rw [HFl.out]; exact HFr0.out
     have hgz := (tree_sz HCk0.out).2.2
     have hibs : ∀ x ∈ i, inB x := fun x hx => by
      have := List.all_eq_true.1 HW0.out x hx
      simpa [inBb, inB] using this
     obtain ⟨bG, hga, hRS⟩ := rs_start (d := M) (fr := fr) HB4.out hGa ⟨hwP, hP4⟩ ⟨by have := HM.out; omega, by omega, hMP⟩ hBa HI.out hibs hF (fun g hg => ⟨(hgz g hg).1, by have := (hgz g hg).2; omega⟩)
     obtain ⟨C, hCe⟩ : ∃ C : RC, C = ⟨w, t, fr, .slice ag t.globals.length cg, .slice af fl cf, .slice ar fl cr, P, bG, xa, xc, gb, F⟩ := ⟨_, rfl⟩
     have hC : C.Ok := by
      rw [hCe]
      refine ⟨HGl.out, hFn, hFr1, HCk0.out, HFe.out, fun x hx => ?_, hGa.ll, hF, ⟨by show t.globals.length ≤ _; omega, by show t.funcs.length ≤ _; have := (tree_sz HCk0.out).2.1; omega⟩, hga⟩
      have := List.all_eq_true.1 HGood.out x hx
      simp only [frB, decide_eq_true_eq] at this
      exact ⟨this.1, by omega⟩
     have hRC : RS C wr 0 false 0 [] (.slice none 0 0) (.slice ai i.length ci) (.slice none 0 0) (s00 t i F) := by rw [hCe]; exact hRS
     have hCt : C.t = t := by rw [hCe]
     have hCf : C.fr = fr := by rw [hCe]
     have hCP : C.P = P := by rw [hCe]
     have hCw : C.w0 = w := by rw [hCe]
     have hCF : C.F = F := by rw [hCe]
     have hml : m < t.funcs.length := fnum_lt hm
     have HCall : Hid (∀ X : World, RS C X 0 false 0 [] (.slice none 0 0) (.slice ai i.length ci) (.slice none 0 0) (s00 t i F) → ∀ (b : Nat), w.heap.size ≤ b → b ∉ C.K [] → X.ownsRow b 2 1 (.slice (some ⟨b, 0, none⟩) 0 0) 0 [] → Calls Tryd.prog 24 #[.pointer (some ⟨P, 0, none⟩), .int .i64 (m : Int), .slice (some ⟨b, 0, none⟩) 0 0] X fun x w' => ExP C X [] (.slice none 0 0) (.slice none 0 0) r s' x w') := fun X hX b hb1 hb2 hr => by
      have := (all_ev C hC n).2.1 m [] (s00 t i F) r s' (by rw [hCt, hCf]; exact hEv) (by rw [hCt]; exact ⟨List.nodup_nil, fun x hx => by cases hx⟩) (by rw [hCt]; exact main_par HCk0.out hm) (fun x hx => by cases hx) (by show (0 : Int) + 1000000000 * (((F.toNat : Nat) : Int) + 1) ≤ _; omega) X 0 [] (.slice none 0 0) (.slice ai i.length ci) (.slice none 0 0) (.slice (some ⟨b, 0, none⟩) 0 0) b hX ⟨hr, fun k hk => by
       have e : b = k := by simpa [Value.ownBlock] using hk
       subst e
       exact ⟨by rw [hCw]; exact hb1, hb2, (fun h => by cases h), (fun h => by cases h)⟩⟩
      rw [hCP] at this
      exact this
     have hend := call_end hEv
     have HEnd := hide hend
     have HRC := hide hRC
     have HFn' := hide (hFn.below HBW.out)
     have m0 := (HGw.out 0 _ rfl).1
     have m1 := (HGw.out 1 _ rfl).1
     have hfi : fnumI t.funcs mainS = (m : Int) := fnumI_some hm
     rw [← hflE] at m1
     have hKK : ∀ b, wr.heap.size ≤ b → b ∉ C.K [] := fun b hb hm => by have := (HRC.out.rng b hm).2; omega
     have HKk := hide hKK
     have HFi := hide hfi
     have Hml := hide hml
     have HGb : Hid (∀ b ∈ gb, W4.heap.size ≤ b) := fun b hb => (hGa.rng b hb).1
     have HGbe : Hid (C.gb = gb) := by show _ = _; rw [hCe]
     clear hflE hGa hBa hFn hFr1 hgz hibs hRS hCe hC hRC hend hm hEv hga hkk hKK hfi HGI HBw hbw HG4 HF4
     have hfs1 : t.funcs.length ≤ 1048576 := hfs
     go_wp2_with fail
     refine (l3func_any t.funcs _ _ mainS wr hfs1 HFn'.out).mono ?_
     rintro e w9 ⟨rfl, hb9⟩
     rw [HFi.out]
     obtain ⟨W10, hW10⟩ : ∃ W10, W10 = w9.alloc (.cells #[] 2) := ⟨_, rfl⟩
     have hb10 : Below w9.heap.size w9 W10 := by rw [hW10]; exact (Below.refl _ _).alloc (Nat.le_refl _) _
     have hrow : W10.ownsRow w9.heap.size 2 1 (.slice (some ⟨w9.heap.size, 0, none⟩) 0 0) 0 [] := by rw [hW10]; exact World.ownsRow_lit w9 #[] 0 (Nat.le_refl _) (by decide) rfl
     have Hc := hide (HCall.out W10 ((HRC.out.below hb9).below hb10) w9.heap.size (by have := HBW.out.size; have := hb9.size; omega) (HKk.out _ hb9.size) hrow)
     have HF10 := hide ((HFw.out.below hb9).below hb10)
     have HW10 := hide hW10
     have hs10 : W4.heap.size ≤ W10.heap.size := by have := hb9.size; have := hb10.size; omega
     clear hb9 hb10 hrow hW10 HCall HRC HKk HFn' m0 m1 HFw
     go_wp2_with fail
     rw [← HW10.out]
     refine Hc.out.mono ?_
     rintro xx w11 ⟨z, vI', vO', vl', rfl, hz, hRS', hT11, hown11⟩
     have hbP : FrC w11 P _ := hCP ▸ hRS'.box
     obtain ⟨oa, oc, hoa, -⟩ := own_shapeU hRS'.out
     have hf11 : FrC w11 (M + 1) [.int .i64 0, .slice none 0 0, .int .i64 0, .int .i64 0, .int .i64 0] := HF10.out.tcs (by omega) hT11 (fun e => by
      rcases e with e | e | e
      ·exact hM1P (e.trans hCP)
      ·rw [HGbe.out] at e
       have := HGb.out _ e
       omega
      ·cases e)
     have HOut := hide hRS'.out
     have hbel : Below w.heap.size w w11 := by have := hRS'.bel; rw [hCw] at this; exact this
     have HBel := hide hbel
     have hpm : P < w11.heap.size ∧ M + 1 < w11.heap.size := ⟨World.block_lt_of_cell? _ _ (hbP 0 _ rfl).1, World.block_lt_of_cell? _ _ (hf11 0 _ rfl).1⟩
     rw [hCF] at hbP
     subst hoa
     rw [hCw] at HOut
     obtain ⟨us, hus⟩ : ∃ us, us = F - (s'.u : Int) := ⟨_, rfl⟩
     rw [← hus] at hbP
     have HUs := hide hus
     have HZ := hide hz
     have HF11 := hide hf11
     have HOwn := hide hown11
     clear hus hz hRS' hT11 hown11 hf11 Hc HF10 HW10 hbel
     obtain ⟨W12, hW12⟩ : ∃ W12, W12 = w11.drew := ⟨_, rfl⟩
     have hb12 : Below w11.heap.size w11 W12 := by rw [hW12]; exact (Below.refl _ _).drew
     have hz12 : w11.heap.size ≤ W12.heap.size := hb12.size
     obtain ⟨W13, hW13⟩ : ∃ W13, W13 = W12.alloc (.cells #[.int .i64 0, .slice none 0 0, .int .i64 0, .int .i64 0, .int .i64 0] 44) := ⟨_, rfl⟩
     have hb13 : Below W12.heap.size W12 W13 := by rw [hW13]; exact (Below.refl _ _).alloc (Nat.le_refl _) _
     have hq13 : FrC W13 W12.heap.size [.int .i64 0, .slice none 0 0, .int .i64 0, .int .i64 0, .int .i64 0] := by rw [hW13]; exact box_fr W12 _ _ (by decide)
     have HS12 : Hid (W12.cell? ⟨P, 8, none⟩ = some (.int .i64 (stR r)) ∧ W12.cell? ⟨P, 5, none⟩ = some (.slice oa s'.o.length oc) ∧ W12.cell? ⟨P, 7, none⟩ = some (.int .i64 us) ∧ W12.cell? ⟨P, 13, none⟩ = some (.int .i64 s'.d)) := ⟨((hbP.below hb12) 8 _ rfl).1, ((hbP.below hb12) 5 _ rfl).1, ((hbP.below hb12) 7 _ rfl).1, ((hbP.below hb12) 13 _ rfl).1⟩
     have hbP13 := (hbP.below hb12).below hb13
     have HS13 : Hid (W13.cell? ⟨P, 8, none⟩ = some (.int .i64 (stR r)) ∧ W13.cell? ⟨P, 5, none⟩ = some (.slice oa s'.o.length oc) ∧ W13.cell? ⟨P, 7, none⟩ = some (.int .i64 us) ∧ W13.cell? ⟨P, 13, none⟩ = some (.int .i64 s'.d)) := ⟨(hbP13 8 _ rfl).1, (hbP13 5 _ rfl).1, (hbP13 7 _ rfl).1, (hbP13 13 _ rfl).1⟩
     have HW12 := hide hW12
     have HW13 := hide hW13
     obtain ⟨Q, hQ⟩ : ∃ Q, Q = W12.heap.size := ⟨_, rfl⟩
     rw [← hQ] at hq13
     have HF13 := hide ((HF11.out.below hb12).below hb13)
     have HB13 := hide (HBel.out.trans ((hb12.trans (hb13.mono hb12.size)).mono HBel.out.size))
     have hO13 : W13.ownsRow w.heap.size 2 1 (.slice oa s'.o.length oc) s'.o.length (s'.o.map (Value.int .i64)) := ownB (ownB HOut.out hb12) hb13
     have HO13 := hide hO13
     have hQP : P ≠ Q ∧ M + 1 ≠ Q ∧ w.heap.size ≤ Q ∧ Q < W13.heap.size := ⟨by omega, by omega, by have := HBel.out.size; omega, World.block_lt_of_cell? _ _ (hq13 0 _ rfl).1⟩
     obtain ⟨hQ1, hQ2, hQ3, hQ4⟩ := hQP
     have HQ := hide hQ
     have HQ13 := hide hq13
     have HOb : Hid (oa = none ∨ ∃ g, oa = some ⟨g, 0, none⟩ ∧ g ≠ Q ∧ g ≠ M + 1) := by
      show _ ∨ _
      rcases HOut.out.2 with ⟨e, -⟩ | ⟨g, cap, cur, e, -⟩
      ·simp only [Value.slice.injEq] at e
       exact .inl e.1
      ·simp only [Value.slice.injEq] at e
       refine .inr ⟨g, e.1, ?_, ?_⟩
       ·have := (World.ownsRow.lt HOut.out g (by rw [e.1]; rfl)).2
        omega
       ·have := HOwn.out g (by rw [e.1]; rfl)
        rcases this with h | h
        ·cases h
        ·omega
     clear hW12 hW13 hbP hbP13 hq13 hb12 hb13 hQ hO13
     go_upto_region 17 with fail
     have HS := HS12
     refine wp_region_E 18 (fun X => X.cell? ⟨P, 8, none⟩ = some (.int .i64 (stR r)) ∧ X.cell? ⟨P, 5, none⟩ = some (.slice oa s'.o.length oc) ∧ X.cell? ⟨P, 7, none⟩ = some (.int .i64 us) ∧ X.cell? ⟨P, 13, none⟩ = some (.int .i64 s'.d)) (by kernel_rfl) ?_
     rw [← HW12.out]
     refine wpAnyE_take (i := 0) (v := ?_) [1, 2, 3, 16, 18] rfl (by kernel_rfl) (by kernel_rfl) (by kernel_rfl) (by kernel_rfl) (fun _ _ _ h => h) (Or.inl ⟨by rfl, ?_⟩) HS.out ?_
     rotate_left
     ·(intro W hSW; (try dsimp only at hSW); go_simp; try with_reducible rfl)
     try simp only [Act.put, List.setIfInBounds_toArray, List.set_cons_zero, List.set_cons_succ]
     refine wpAnyE_take (i := 1) (v := ?_) [2, 3, 16, 18] rfl (by kernel_rfl) (by kernel_rfl) (by kernel_rfl) (by kernel_rfl) (fun _ _ _ h => h) (Or.inl ⟨by rfl, ?_⟩) HS.out ?_
     rotate_left
     ·(intro W hSW; (try dsimp only at hSW); go_simp; try with_reducible rfl)
     try simp only [Act.put, List.setIfInBounds_toArray, List.set_cons_zero, List.set_cons_succ]
     refine wpAnyE_take (i := 2) (v := ?_) [3, 16, 18] rfl (by kernel_rfl) (by kernel_rfl) (by kernel_rfl) (by kernel_rfl) (fun _ _ _ h => h) (Or.inl ⟨by rfl, ?_⟩) HS.out ?_
     rotate_left
     ·(intro W hSW; (try dsimp only at hSW); go_simp; try with_reducible rfl)
     try simp only [Act.put, List.setIfInBounds_toArray, List.set_cons_zero, List.set_cons_succ]
     refine wpAnyE_take (i := 3) (v := ?_) [16, 18] rfl (by kernel_rfl) (by kernel_rfl) (by kernel_rfl) (by kernel_rfl) (fun _ _ _ h => h) (Or.inl ⟨by rfl, ?_⟩) HS.out ?_
     rotate_left
     ·(intro W hSW; (try dsimp only at hSW); go_simp; try with_reducible rfl)
     try simp only [Act.put, List.setIfInBounds_toArray, List.set_cons_zero, List.set_cons_succ]
     refine wpAnyE_take (i := 4) (v := ?_) [5, 6, 7, 16, 18] rfl (by kernel_rfl) (by kernel_rfl) (by kernel_rfl) (by kernel_rfl) (fun _ _ _ h => h) (Or.inl ⟨by rfl, ?_⟩) HS.out ?_
     rotate_left
     ·(intro W hSW; (try dsimp only at hSW); go_simp; try with_reducible rfl)
     try simp only [Act.put, List.setIfInBounds_toArray, List.set_cons_zero, List.set_cons_succ]
     refine wpAnyE_take (i := 5) (v := ?_) [6, 7, 16, 18] rfl (by kernel_rfl) (by kernel_rfl) (by kernel_rfl) (by kernel_rfl) (fun _ _ _ h => h) (Or.inl ⟨by rfl, ?_⟩) HS.out ?_
     rotate_left
     ·(intro W hSW; (try dsimp only at hSW); go_simp; try with_reducible rfl)
     try simp only [Act.put, List.setIfInBounds_toArray, List.set_cons_zero, List.set_cons_succ]
     refine wpAnyE_take (i := 6) (v := ?_) [7, 16, 18] rfl (by kernel_rfl) (by kernel_rfl) (by kernel_rfl) (by kernel_rfl) (fun _ _ _ h => h) (Or.inl ⟨by rfl, ?_⟩) HS.out ?_
     rotate_left
     ·(intro W hSW; (try dsimp only at hSW); go_simp; try with_reducible rfl)
     try simp only [Act.put, List.setIfInBounds_toArray, List.set_cons_zero, List.set_cons_succ]
     refine wpAnyE_take (i := 7) (v := ?_) [16, 18] rfl (by kernel_rfl) (by kernel_rfl) (by kernel_rfl) (by kernel_rfl) (fun _ _ _ h => h) (Or.inl ⟨by rfl, ?_⟩) HS.out ?_
     rotate_left
     ·(intro W hSW; (try dsimp only at hSW); go_simp; try with_reducible rfl)
     try simp only [Act.put, List.setIfInBounds_toArray, List.set_cons_zero, List.set_cons_succ]
     refine wpAnyE_take (i := 8) (v := ?_) [9, 10, 11, 16, 18] rfl (by kernel_rfl) (by kernel_rfl) (by kernel_rfl) (by kernel_rfl) (fun _ _ _ h => h) (Or.inl ⟨by rfl, ?_⟩) HS.out ?_
     rotate_left
     ·(intro W hSW; (try dsimp only at hSW); go_simp; try with_reducible rfl)
     try simp only [Act.put, List.setIfInBounds_toArray, List.set_cons_zero, List.set_cons_succ]
     refine wpAnyE_take (i := 9) (v := ?_) [10, 11, 16, 18] rfl (by kernel_rfl) (by kernel_rfl) (by kernel_rfl) (by kernel_rfl) (fun _ _ _ h => h) (Or.inl ⟨by rfl, ?_⟩) HS.out ?_
     rotate_left
     ·(intro W hSW; (try dsimp only at hSW); go_simp; try with_reducible rfl)
     try simp only [Act.put, List.setIfInBounds_toArray, List.set_cons_zero, List.set_cons_succ]
     refine wpAnyE_take (i := 10) (v := ?_) [11, 16, 18] rfl (by kernel_rfl) (by kernel_rfl) (by kernel_rfl) (by kernel_rfl) (fun _ _ _ h => h) (Or.inl ⟨by rfl, ?_⟩) HS.out ?_
     rotate_left
     ·(intro W hSW; (try dsimp only at hSW); go_simp; try with_reducible rfl)
     try simp only [Act.put, List.setIfInBounds_toArray, List.set_cons_zero, List.set_cons_succ]
     refine wpAnyE_take (i := 11) (v := ?_) [16, 18] rfl (by kernel_rfl) (by kernel_rfl) (by kernel_rfl) (by kernel_rfl) (fun _ _ _ h => h) (Or.inl ⟨by rfl, ?_⟩) HS.out ?_
     rotate_left
     ·(intro W hSW; (try dsimp only at hSW); go_simp; try with_reducible rfl)
     try simp only [Act.put, List.setIfInBounds_toArray, List.set_cons_zero, List.set_cons_succ]
     refine wpAnyE_take (i := 12) (v := ?_) [13, 14, 15, 16, 18] rfl (by kernel_rfl) (by kernel_rfl) (by kernel_rfl) (by kernel_rfl) (fun _ _ _ h => h) (Or.inl ⟨by rfl, ?_⟩) HS.out ?_
     rotate_left
     ·(intro W hSW; (try dsimp only at hSW); go_simp; try with_reducible rfl)
     try simp only [Act.put, List.setIfInBounds_toArray, List.set_cons_zero, List.set_cons_succ]
     refine wpAnyE_take (i := 13) (v := ?_) [14, 15, 16, 18] rfl (by kernel_rfl) (by kernel_rfl) (by kernel_rfl) (by kernel_rfl) (fun _ _ _ h => h) (Or.inl ⟨by rfl, ?_⟩) HS.out ?_
     rotate_left
     ·(intro W hSW; (try dsimp only at hSW); go_simp; try with_reducible rfl)
     try simp only [Act.put, List.setIfInBounds_toArray, List.set_cons_zero, List.set_cons_succ]
     refine wpAnyE_take (i := 14) (v := ?_) [15, 16, 18] rfl (by kernel_rfl) (by kernel_rfl) (by kernel_rfl) (by kernel_rfl) (fun _ _ _ h => h) (Or.inl ⟨by rfl, ?_⟩) HS.out ?_
     rotate_left
     ·(intro W hSW; (try dsimp only at hSW); go_simp; try with_reducible rfl)
     try simp only [Act.put, List.setIfInBounds_toArray, List.set_cons_zero, List.set_cons_succ]
     refine wpAnyE_take (i := 15) (v := ?_) [16, 18] rfl (by kernel_rfl) (by kernel_rfl) (by kernel_rfl) (by kernel_rfl) (fun _ _ _ h => h) (Or.inl ⟨by rfl, ?_⟩) HS.out ?_
     rotate_left
     ·(intro W hSW; (try dsimp only at hSW); go_simp; try with_reducible rfl)
     try simp only [Act.put, List.setIfInBounds_toArray, List.set_cons_zero, List.set_cons_succ]
     refine wpAnyE_take (i := 16) (v := ?_) [18] rfl (by kernel_rfl) (by kernel_rfl) (by kernel_rfl) (by kernel_rfl) (fun _ _ _ h => h) (Or.inl ⟨by rfl, ?_⟩) HS.out ?_
     rotate_left
     ·(intro W hSW; (try dsimp only at hSW); go_simp; try with_reducible rfl)
     try simp only [Act.put, List.setIfInBounds_toArray, List.set_cons_zero, List.set_cons_succ]
     clear HS
     refine wpAnyE_one (i := 17) (by kernel_rfl) rfl (fun K hK => ?_)
     go_simp
     rw [← HW13.out, ← HQ.out]
     refine hK.out _ _ (fun _ => HS13.out) ?_
     clear hK K
     try simp only [Act.put, List.setIfInBounds_toArray, List.set_cons_zero, List.set_cons_succ]
     have q0 := (HQ13.out 0 _ rfl).1
     have f0 := (HQ13.out 0 _ rfl).2
     have q1 := (HQ13.out 1 _ rfl).1
     have f1 := (HQ13.out 1 _ rfl).2
     have q2 := (HQ13.out 2 _ rfl).1
     have f2 := (HQ13.out 2 _ rfl).2
     have q3 := (HQ13.out 3 _ rfl).1
     have f3 := (HQ13.out 3 _ rfl).2
     have q4 := (HQ13.out 4 _ rfl).1
     have f4 := (HQ13.out 4 _ rfl).2
     refine wpAnyE_one (i := 18) (by kernel_rfl) rfl (fun K hK => ?_)
     go_simp
     obtain ⟨W14, hW14⟩ : ∃ W14, W14 = ((((W13.setCell ⟨Q, 0, none⟩ (.int .i64 (stR r))).setCell ⟨Q, 1, none⟩ (.slice oa s'.o.length oc)).setCell ⟨Q, 2, none⟩ (.int .i64 0)).setCell ⟨Q, 3, none⟩ (.int .i64 us)).setCell ⟨Q, 4, none⟩ (.int .i64 s'.d) := ⟨_, rfl⟩
     have hT14 : Tcs (fun k => k = Q) W13 W14 := by
      rw [hW14]
      exact (((((Tcs.refl (fun k => k = Q) W13).setCell (p := ⟨Q, 0, none⟩) rfl _).setCell (p := ⟨Q, 1, none⟩) rfl _).setCell (p := ⟨Q, 2, none⟩) rfl _).setCell (p := ⟨Q, 3, none⟩) rfl _).setCell (p := ⟨Q, 4, none⟩) rfl _
     have hq14 : FrC W14 Q [.int .i64 (stR r), .slice oa s'.o.length oc, .int .i64 0, .int .i64 us, .int .i64 s'.d] := by
      rw [hW14]
      exact ((((HQ13.out.set 0 _).set 1 _).set 2 _).set 3 _).set 4 _
     have hf14 : FrC W14 (M + 1) [.int .i64 0, .slice none 0 0, .int .i64 0, .int .i64 0, .int .i64 0] := HF13.out.tcs (World.block_lt_of_cell? _ _ (HF13.out 0 _ rfl).1) hT14 hQ2
     have p8 : W14.cell? ⟨P, 8, none⟩ = some (.int .i64 (stR r)) := (World.cell?_of_block (a := ⟨P, 8, none⟩) (hT14.block P (World.block_lt_of_cell? _ _ HS13.out.1) hQ1)).trans HS13.out.1
     rw [← hW14]
     refine hK.out _ _ (fun h => absurd rfl h) ?_
     clear hK K
     refine wpAnyE_done (by kernel_rfl) ?_ _
     have HFin : Hid (∀ X, Tcs (fun k => k = Q ∨ k = M + 1) W14 X → X.ownsRow w.heap.size 2 1 (.slice oa s'.o.length oc) s'.o.length (s'.o.map (Value.int .i64)) ∧ Below w.heap.size w X) := fun X hX => by
      have hT : Tcs (fun k => k = Q ∨ k = M + 1) W13 X := (hT14.mono fun k hk => .inl hk).trans hX
      refine ⟨own_notU HO13.out hT (fun k hk hs => ?_), hT.below HB13.out HB13.out.size (fun k hk => by have := HM.out; rcases hk with h | h <;> omega)⟩
      rcases HOb.out with h | ⟨g, h, h1, h2⟩
      ·rw [h] at hk; cases hk
      ·rw [h] at hk
       have e : g = k := by simpa [Value.ownBlock] using hk
       subst e
       exact hs.elim h1 h2
     have HQ14 := hide hq14
     have HF14 := hide hf14
     clear hW14 hT14 q0 q1 q2 q3 q4 f0 f1 f2 f3 f4 HS13 HQ13 HF13 HO13
     rcases HEnd.out with ⟨v, hr⟩ | ⟨c, hr, hc⟩
     ·have hst : stR r = 0 := by rw [hr]; rfl
      have hse : stE r = 1 := by rw [hr]; rfl
      have hve : valR r = z := by rw [hr]; exact (HZ.out v hr).symm
      rw [hst] at hq14 p8 HQ14
      have Hse := hide hse
      have Hve := hide hve
      clear hse hve hst
      have a0 := (hq14 0 _ rfl).1
      have f0 := (hq14 0 _ rfl).2
      have a1 := (hq14 1 _ rfl).1
      have a2 := (hq14 2 _ rfl).1
      have f2 := (hq14 2 _ rfl).2
      have a3 := (hq14 3 _ rfl).1
      have a4 := (hq14 4 _ rfl).1
      have b0 := (hf14 0 _ rfl).1
      have c0 := (hf14 0 _ rfl).2
      have b1 := (hf14 1 _ rfl).1
      have c1 := (hf14 1 _ rfl).2
      have b2 := (hf14 2 _ rfl).1
      have c2 := (hf14 2 _ rfl).2
      have b3 := (hf14 3 _ rfl).1
      have c3 := (hf14 3 _ rfl).2
      have b4 := (hf14 4 _ rfl).1
      have c4 := (hf14 4 _ rfl).2
      have hQ2' : ¬ Q = M + 1 := fun e => hQ2 e.symm
      clear hq14 hf14
      go_wp2_with fail
      have hF1 : FrC ((W14.setCell ⟨Q, 0, none⟩ (.int .i64 1)).setCell ⟨Q, 2, none⟩ (.int .i64 z)) (M + 1) [.int .i64 0, .slice none 0 0, .int .i64 0, .int .i64 0, .int .i64 0] := HF14.out.tcs (World.block_lt_of_cell? _ _ b0) ((((Tcs.refl (fun k => k = Q) W14)).setCell (p := ⟨Q, 0, none⟩) rfl _).setCell (p := ⟨Q, 2, none⟩) rfl _) hQ2
      have hF2 := ((((hF1.set 0 (.int .i64 1)).set 1 (.slice oa s'.o.length oc)).set 2 (.int .i64 z)).set 3 (.int .i64 us)).set 4 (.int .i64 s'.d)
      have t0 := (hF2 0 _ rfl).1
      have t1 := (hF2 1 _ rfl).1
      have t2 := (hF2 2 _ rfl).1
      have t3 := (hF2 3 _ rfl).1
      have t4 := (hF2 4 _ rfl).1
      refine bodyPost_ret (v := .agg #[.int .i64 1, .slice oa s'.o.length oc, .int .i64 z, .int .i64 us, .int .i64 s'.d]) (by simp [results, Tryd.results9, go_sem, t0, t1, t2, t3, t4]) rfl ?_
      have hX := HFin.out _ ((((((((Tcs.refl (fun k => k = Q ∨ k = M + 1) W14)).setCell (p := ⟨Q, 0, none⟩) (.inl rfl) (.int .i64 1)).setCell (p := ⟨Q, 2, none⟩) (.inl rfl) (.int .i64 z)).setCell (p := ⟨M + 1, 0, none⟩) (.inr rfl) (.int .i64 1)).setCell (p := ⟨M + 1, 1, none⟩) (.inr rfl) (.slice oa s'.o.length oc)).setCell (p := ⟨M + 1, 2, none⟩) (.inr rfl) (.int .i64 z)).setCell (p := ⟨M + 1, 3, none⟩) (.inr rfl) (.int .i64 us) |>.setCell (p := ⟨M + 1, 4, none⟩) (.inr rfl) (.int .i64 s'.d))
      exact ⟨_, by rw [Hse.out, Hve.out, ← HUs.out], hX.1, hX.2⟩
     ·have hst : stR r = c := by rw [hr]; rfl
      have hse : stE r = c := by rw [hr]; rfl
      have hve : valR r = 0 := by rw [hr]; rfl
      rw [hst] at hq14 p8 HQ14
      have Hse := hide hse
      have Hve := hide hve
      have hc' : (c == 0) = false := by simpa using hc
      clear hse hve hst
      have a0 := (hq14 0 _ rfl).1
      have a1 := (hq14 1 _ rfl).1
      have a2 := (hq14 2 _ rfl).1
      have a3 := (hq14 3 _ rfl).1
      have a4 := (hq14 4 _ rfl).1
      have b0 := (hf14 0 _ rfl).1
      have c0 := (hf14 0 _ rfl).2
      have b1 := (hf14 1 _ rfl).1
      have c1 := (hf14 1 _ rfl).2
      have b2 := (hf14 2 _ rfl).1
      have c2 := (hf14 2 _ rfl).2
      have b3 := (hf14 3 _ rfl).1
      have c3 := (hf14 3 _ rfl).2
      have b4 := (hf14 4 _ rfl).1
      have c4 := (hf14 4 _ rfl).2
      have hQ2' : ¬ Q = M + 1 := fun e => hQ2 e.symm
      clear hq14 hf14
      go_wp2_with fail
      have hF2 := ((((HF14.out.set 0 (.int .i64 c)).set 1 (.slice oa s'.o.length oc)).set 2 (.int .i64 0)).set 3 (.int .i64 us)).set 4 (.int .i64 s'.d)
      have t0 := (hF2 0 _ rfl).1
      have t1 := (hF2 1 _ rfl).1
      have t2 := (hF2 2 _ rfl).1
      have t3 := (hF2 3 _ rfl).1
      have t4 := (hF2 4 _ rfl).1
      refine bodyPost_ret (v := .agg #[.int .i64 c, .slice oa s'.o.length oc, .int .i64 0, .int .i64 us, .int .i64 s'.d]) (by simp [results, Tryd.results9, go_sem, t0, t1, t2, t3, t4]) rfl ?_
      have hX := HFin.out _ ((((((Tcs.refl (fun k => k = Q ∨ k = M + 1) W14)).setCell (p := ⟨M + 1, 0, none⟩) (.inr rfl) (.int .i64 c)).setCell (p := ⟨M + 1, 1, none⟩) (.inr rfl) (.slice oa s'.o.length oc)).setCell (p := ⟨M + 1, 2, none⟩) (.inr rfl) (.int .i64 0)).setCell (p := ⟨M + 1, 3, none⟩) (.inr rfl) (.int .i64 us) |>.setCell (p := ⟨M + 1, 4, none⟩) (.inr rfl) (.int .i64 s'.d))
      exact ⟨_, by rw [Hse.out, Hve.out, ← HUs.out], hX.1, hX.2⟩
end
end Go.Proofs.YtolkpkklinoegaaDoor
