import Derived.Test.YtijgcjeijcidfaaDoorVO
namespace Go.Proofs.YtijgcjeijcidfaaDoor
open Go.RowKit
set_option linter.unusedVariables false
set_option linter.unusedSimpArgs false

set_option maxHeartbeats 2000000 in
theorem law_valid (t : Tr) (vg vf : Value) (w : World) (hT : Tab w) (hw : wfT t) (hg : Globs w vg t.globals) (hf : Funcs w vf t.funcs) :
    Calls Tryd.prog 3 #[.agg #[vg, vf]] w fun e w' => e = .returned (.bool true) ∧ Below w.heap.size w w' := by
  have HT : Hid (Tab w) := hT
  have HW : Hid (wfT t) := hw
  have HG : Hid (Globs w vg t.globals) := hg
  have HF : Hid (Funcs w vf t.funcs) := hf
  have hsz := hT.size
  obtain ⟨ag, cg, rfl, -, -, -⟩ := hg
  obtain ⟨af, cf, rfl, -, -, -⟩ := hf
  clear hT hw
  have hA : Below w.heap.size w (w.alloc (.cells #[.slice ag t.globals.length cg, .slice af t.funcs.length cf] 25)) := (Below.refl _ _).alloc (Nat.le_refl _) _
  go_enter Tryd.func3, Tryd.ntmps3
  go_wp2_with fail
  refine (szTree_any t _ _ _ _ ⟨by omega, by omega⟩ HW.out (HG.out.below hA) (HF.out.below hA)).mono ?_
  rintro e w1 ⟨rfl, hb1⟩
  simp only [World.size_alloc] at hb1
  have hB1 := one_below hb1
  by_cases hs : (1048576 : Int) < (szT t : Nat)
  · rw [szR_gt hs]
    clear hs
    go_wp2_with fail
    go_ret
    exact ⟨rfl, hB1⟩
  have HS : Hid (smallT t) := smallT_of (by omega)
  rw [szR_le (show ((szT t : Nat) : Int) ≤ 1048576 by omega)]
  have hq : 0 ≤ (1048576 : Int) - (szT t : Nat) := by omega
  generalize (1048576 : Int) - (szT t : Nat) = q at hq ⊢
  clear hs
  obtain ⟨x0, x1⟩ := box2 hb1
  go_wp2_with fail
  refine (toTree_any t _ _ _ HS.out (HG.out.below hB1) (HF.out.below hB1)).mono ?_
  rintro e w2 ⟨vg2, vf2, rfl, hg2, hf2, hb2⟩
  have HG2 : Hid (Globs w2 vg2 t.globals) := hg2.globs (by have := HS.out.1; omega)
  have HF2 : Hid (Funcs w2 vf2 t.funcs) := hf2.funcs (by have := HS.out.2.1; omega) HS.out.2.2
  have hB2 := hb1.trans (hb2.mono (by have := hb1.size; simp at this; omega))
  clear x0 x1 hg2 hf2
  go_wp2_with fail
  refine (gtree_any t _ _ _ HS.out HG2.out HF2.out).mono ?_
  rintro e w3 ⟨rfl, hb3⟩
  have hB3 := hB2.trans (hb3.mono (by have := hB2.size; simp at this; omega))
  have hB3' := one_below hB3
  clear HG2 HF2 hb3 hB2 hb2 hb1 hB1
  obtain ⟨x0, x1⟩ := box2 hB3
  go_wp2_with fail
  refine (toTree_any t _ _ _ HS.out (HG.out.below hB3') (HF.out.below hB3')).mono ?_
  rintro e w4 ⟨vg4, vf4, rfl, hg4, hf4, hb4⟩
  have HG4 : Hid (Globs w4 vg4 t.globals) := hg4.globs (by have := HS.out.1; omega)
  have HF4 : Hid (Funcs w4 vf4 t.funcs) := hf4.funcs (by have := HS.out.2.1; omega) HS.out.2.2
  obtain ⟨g4, y4, rfl, -, -⟩ := hg4
  obtain ⟨f4, z4, V4, rfl, -, -, -⟩ := hf4
  have hB4 := hB3.trans (hb4.mono (by have := hB3.size; simp at this; omega))
  have hB4' := one_below hB4
  clear x0 x1 hb4 hB3 hB3'
  go_wp2_with fail
  have hX : Below w4.heap.size w4 (w4.alloc (.cells #[.slice (some ⟨g4, 0, none⟩) t.globals.length t.globals.length, .slice (some ⟨f4, 0, none⟩) t.funcs.length t.funcs.length] 31)) := (Below.refl _ _).alloc (Nat.le_refl _) _
  refine (vtree_any t _ _ _ ((HT.out.below hsz hB4').below (HT.out.below hsz hB4').size hX) HS.out (HG4.out.below hX) (HF4.out.below hX)).mono ?_
  rintro e w5 ⟨rfl, hb5⟩
  simp only [World.size_alloc] at hb5
  have hX5 := one_below hb5
  have hB5 := hB4.trans (hX5.mono (by have := hB4.size; simp at this; omega))
  have hB5' := one_below hB5
  obtain ⟨x0, x1⟩ := box2 hB5
  obtain ⟨z0, z1⟩ := box2 hb5
  have hl0 : w.heap.size < w5.heap.size := by have := hB5.size; simp at this; omega
  have hl4 : w4.heap.size < w5.heap.size := by have := hb5.size; simp at this; omega
  have HG5 : Hid (Globs w5 (.slice (some ⟨g4, 0, none⟩) t.globals.length t.globals.length) t.globals) := HG4.out.below hX5
  have HF5 : Hid (Funcs w5 (.slice (some ⟨f4, 0, none⟩) t.funcs.length t.funcs.length) t.funcs) := HF4.out.below hX5
  have HGA : Hid (Globs w5 (.slice ag t.globals.length cg) t.globals) := HG.out.below hB5'
  have HFA : Hid (Funcs w5 (.slice af t.funcs.length cf) t.funcs) := HF.out.below hB5'
  have hdr : Below w5.heap.size w5 w5.drew := (Below.refl _ _).drew
  clear HG4 HF4 hX hX5 hb5 hB4 hB4' hA
  go_wp2_with fail
  go_region_held3 (fun W => W.cell? ⟨w.heap.size, 0, none⟩ = some (.slice ag t.globals.length cg) ∧ W.cell? ⟨w.heap.size, 1, none⟩ = some (.slice af t.funcs.length cf) ∧ W.cell? ⟨w4.heap.size, 0, none⟩ = some (.slice (some ⟨g4, 0, none⟩) t.globals.length t.globals.length) ∧ W.cell? ⟨w4.heap.size, 1, none⟩ = some (.slice (some ⟨f4, 0, none⟩) t.funcs.length t.funcs.length)) (go_simp)
    (first
    | (go_at_call 6; refine (toTree_any t _ _ _ HS.out (HGA.out.below hdr) (HFA.out.below hdr)).mono ?_; rintro e w6 ⟨vg6, vf6, rfl, hg6, hf6, hb6⟩; have hcc : ∀ b o, b < w5.heap.size → w6.cell? ⟨b, o, none⟩ = w5.cell? ⟨b, o, none⟩ := (bcell hb6).1; have HG6 : Hid (Globs w6 vg6 t.globals) := hg6.globs (by have := HS.out.1; omega); have HF6 : Hid (Funcs w6 vf6 t.funcs) := hf6.funcs (by have := HS.out.2.1; omega) HS.out.2.2; clear hg6 hf6; have hl06 : w.heap.size < w6.heap.size := Nat.lt_of_lt_of_le hl0 hb6.size; have hl46 : w4.heap.size < w6.heap.size := Nat.lt_of_lt_of_le hl4 hb6.size)
    | (go_at_call 8; refine (eqTree_any t _ _ _ _ _ HS.out (HG5.out.below (hdr.trans hb6)) (HF5.out.below (hdr.trans hb6)) HG6.out HF6.out).mono ?_; rintro e w7 ⟨rfl, hb7⟩; have hcc : ∀ b o, b < w6.heap.size → w7.cell? ⟨b, o, none⟩ = w6.cell? ⟨b, o, none⟩ := (bcell hb7).1))
  have hB7 := hB5'.trans (((hdr.trans hb6).trans (hb7.mono hb6.size)).mono (by omega))
  go_wp2_with fail
  go_ret
  exact ⟨rfl, hB7⟩

end Go.Proofs.YtijgcjeijcidfaaDoor
