import Derived.Test.YtmbfkmmfneeleaaGreatDoorPCKW
import Derived.Test.YtmbfkmmfneeleaaGreatDoorPCKX
namespace Go.Proofs.YtmbfkmmfneeleaaGreatDoor
open Go.RowKit
set_option linter.unusedVariables false
set_option linter.unusedSimpArgs false
set_option linter.unusedSectionVars false
variable [Inhabited Pick]

/-- The laid variable errors.errorType. -/
def ErrT (w : World) : Prop := w.cell? ⟨0, 0, none⟩ = some (.iface 121 (.agg #[.pointer (some ⟨3, 54, none⟩)]))
theorem ErrT.below {w w' : World} (h : ErrT w) (hb : Below w.heap.size w w') : ErrT w' := (hb.cell (p := ⟨0, 0, none⟩) (World.block_lt_of_cell? _ _ h)).trans h
/-- A fault as CheckC answers it. -/
def resV (x : Int × Int × Int) : Value := .agg #[.int .i64 x.1, .int .i64 x.2.1, .int .i64 x.2.2]
theorem bodiesE_ok {t : Tr} : ∀ (fs : List Fu) (i : Nat), (bodiesE t i fs).1 = 0 → bodiesE t i fs = (0, -1, -1)
  | [], i, _ => rfl
  | f :: r, i, h => by
    rw [bodiesE] at h ⊢
    by_cases hz : (bodyE t i f).1 = 0
    · rw [if_neg (by simp [hz])] at h ⊢
      exact bodiesE_ok r (i + 1) h
    · rw [if_pos hz] at h
      exact absurd h hz
open Classical in
theorem circE_ok {t : Tr} {m : Nat} : ∀ (n i : Nat), (circE t m i n).1 = 0 → circE t m i n = (0, -1, -1)
  | 0, i, _ => rfl
  | n + 1, i, h => by
    rw [circE] at h ⊢
    by_cases hz : (i = m ∨ Rch t m i) ∧ Rch t i i
    · rw [if_pos hz] at h
      simp at h
    · rw [if_neg hz] at h ⊢
      exact circE_ok n (i + 1) h
theorem checkE_ok {t : Tr} (h : (checkE t).1 = 0) : checkE t = (0, -1, -1) := by
  unfold checkE at h ⊢
  split
  · rename_i h1
    rw [if_pos h1] at h
    simp at h
  · rename_i h1
    rw [if_neg h1] at h
    split
    · rename_i h2
      rw [if_pos h2] at h
      exact absurd h h2
    · rename_i h2
      rw [if_neg h2] at h
      split
      · rename_i h3
        rw [if_pos h3] at h
        exact absurd h h3
      · rename_i h3
        rw [if_neg h3] at h
        exact circE_ok _ _ h

theorem set3 {w : World} {b : Nat} {u0 u1 u2 y0 y1 y2 : Value} (h0 : w.cell? ⟨b, 0, none⟩ = some y0) (h1 : w.cell? ⟨b, 1, none⟩ = some y1) (h2 : w.cell? ⟨b, 2, none⟩ = some y2) :
    (((w.setCell ⟨b, 0, none⟩ u0).setCell ⟨b, 1, none⟩ u1).setCell ⟨b, 2, none⟩ u2).cell? ⟨b, 0, none⟩ = some u0 ∧ (((w.setCell ⟨b, 0, none⟩ u0).setCell ⟨b, 1, none⟩ u1).setCell ⟨b, 2, none⟩ u2).cell? ⟨b, 1, none⟩ = some u1 ∧ (((w.setCell ⟨b, 0, none⟩ u0).setCell ⟨b, 1, none⟩ u1).setCell ⟨b, 2, none⟩ u2).cell? ⟨b, 2, none⟩ = some u2 := by
  have e1 : (w.setCell ⟨b, 0, none⟩ u0).cell? ⟨b, 1, none⟩ = some y1 := (World.cell?_setCell_other _ _ _ _ (off_ne (by decide))).trans h1
  have e2 : ((w.setCell ⟨b, 0, none⟩ u0).setCell ⟨b, 1, none⟩ u1).cell? ⟨b, 2, none⟩ = some y2 := (World.cell?_setCell_other _ _ _ _ (off_ne (by decide))).trans ((World.cell?_setCell_other _ _ _ _ (off_ne (by decide))).trans h2)
  exact ⟨(World.cell?_setCell_other _ _ _ _ (off_ne (by decide))).trans ((World.cell?_setCell_other _ _ _ _ (off_ne (by decide))).trans (World.cell?_setCell_same _ _ _ h0)), (World.cell?_setCell_other _ _ _ _ (off_ne (by decide))).trans (World.cell?_setCell_same _ _ _ e1), World.cell?_setCell_same _ _ _ e2⟩

set_option maxRecDepth 100000 in
set_option maxHeartbeats 4000000 in
/-- impl.CheckC. -/
theorem checkCI_any (t : Tr) (vg vf : Value) (w : World) (hT : Tab w) (hE : ErrT w) (hs : smallT t) (hw : wfT t) (hg : Globs w vg t.globals) (hf : Funcs w vf t.funcs) :
    Calls Tryz.prog 7 #[.agg #[vg, vf]] w fun e w' => e = .returned (resV (checkE t)) ∧ Below w.heap.size w w' := by
  obtain ⟨x, y, z, hX⟩ : ∃ x y z, checkE t = (x, y, z) := ⟨_, _, _, rfl⟩
  have HX : Hid (checkE t = (x, y, z)) := hX
  rw [hX, show resV (x, y, z) = .agg #[.int .i64 x, .int .i64 y, .int .i64 z] from rfl]
  obtain ⟨ag, cg, rfl, -⟩ := id hg
  obtain ⟨af, cf, rfl, -⟩ := id hf
  obtain ⟨W0, hW0⟩ : ∃ W0, W0 = ((w.alloc (.cells #[.slice ag t.globals.length cg, .slice af t.funcs.length cf] 33)).alloc (.cells #[.int .i64 0, .int .i64 0, .int .i64 0] 28)).alloc (.cells #[.int .i64 0, .int .i64 0, .int .i64 0] 51) := ⟨_, rfl⟩
  obtain ⟨R, hR⟩ : ∃ R, R = w.heap.size + 1 := ⟨_, rfl⟩
  obtain ⟨F, hF⟩ : ∃ F, F = w.heap.size + 1 + 1 := ⟨_, rfl⟩
  have hA : Below w.heap.size w W0 := by rw [hW0]; exact (((Below.refl _ _).alloc (Nat.le_refl _) _).alloc (by simp) _).alloc (by simp; omega) _
  have hRc : ∀ o, o < 3 → W0.cell? ⟨R, o, none⟩ = some (.int .i64 0) := fun o ho => by
    rw [hW0, World.cell?_alloc_lt _ _ ⟨R, o, none⟩ (by simp [hR])]
    refine (World.cell?_alloc_at _ _ _ _ (by simp [hR])).trans ?_
    have : o = 0 ∨ o = 1 ∨ o = 2 := by omega
    rcases this with rfl | rfl | rfl <;> rfl
  have hFc : ∀ o, o < 3 → W0.cell? ⟨F, o, none⟩ = some (.int .i64 0) := fun o ho => by
    rw [hW0]
    refine (World.cell?_alloc_at _ _ _ _ (by simp [hF])).trans ?_
    have : o = 0 ∨ o = 1 ∨ o = 2 := by omega
    rcases this with rfl | rfl | rfl <;> rfl
  have hRz : ∀ o, W0.frozen? ⟨R, o, none⟩ = false := fun o => by
    rw [hW0, World.frozen?_alloc_past _ _ _ (by simp [hR])]
    exact World.frozen?_alloc_at _ _ _ _ (by simp [hR])
  have hFz : ∀ o, W0.frozen? ⟨F, o, none⟩ = false := fun o => by
    rw [hW0]; exact World.frozen?_alloc_at _ _ _ _ (by simp [hF])
  have hRs : R < W0.heap.size := by rw [hW0]; simp; omega
  have hFs : F < W0.heap.size := by rw [hW0]; simp; omega
  have hRF : R ≠ F := by omega
  have hwR : w.heap.size ≤ R := by omega
  have hwF : w.heap.size ≤ F := by omega
  have HCh : Hid (Calls Tryz.prog 21 #[.agg #[.slice ag t.globals.length cg, .slice af t.funcs.length cf]] W0 fun e w' => e = .returned (errV x y z) ∧ Below W0.heap.size W0 w') := by
    have := checkI_any t _ _ _ (hT.below hT.size hA) hs hw (hg.below hA) (hf.below hA)
    rw [hX] at this
    exact this
  have HE0 : Hid (ErrT W0) := hE.below hA
  have HRc : Hid (∀ o, o < 3 → W0.cell? ⟨R, o, none⟩ = some (.int .i64 0)) := hRc
  have HFc : Hid (∀ o, o < 3 → W0.cell? ⟨F, o, none⟩ = some (.int .i64 0)) := hFc
  have HRz : Hid (∀ o, W0.frozen? ⟨R, o, none⟩ = false) := hRz
  have HFz : Hid (∀ o, W0.frozen? ⟨F, o, none⟩ = false) := hFz
  have HA : Hid (Below w.heap.size w W0) := hA
  clear hX hT hE hs hw hg hf hRc hFc hRz hFz hA
  go_enter Tryz.func7, Tryz.ntmps7
  go_wp2_with fail
  rw [← hW0, ← hF, ← hR]
  clear hW0 hR hF
  refine HCh.out.mono ?_
  rintro e w1 ⟨rfl, hb1⟩
  have hB1 : Below w.heap.size w w1 := HA.out.trans (hb1.mono HA.out.size)
  have HE1 : Hid (ErrT w1) := HE0.out.below hb1
  have r0 := (hb1.cell (p := ⟨R, 0, none⟩) hRs).trans (HRc.out 0 (by decide))
  have r1 := (hb1.cell (p := ⟨R, 1, none⟩) hRs).trans (HRc.out 1 (by decide))
  have r2 := (hb1.cell (p := ⟨R, 2, none⟩) hRs).trans (HRc.out 2 (by decide))
  have rz := fun o => (hb1.frozen (p := ⟨R, o, none⟩) hRs).trans (HRz.out o)
  have f0 := (hb1.cell (p := ⟨F, 0, none⟩) hFs).trans (HFc.out 0 (by decide))
  have f1 := (hb1.cell (p := ⟨F, 1, none⟩) hFs).trans (HFc.out 1 (by decide))
  have f2 := (hb1.cell (p := ⟨F, 2, none⟩) hFs).trans (HFc.out 2 (by decide))
  have fz := fun o => (hb1.frozen (p := ⟨F, o, none⟩) hFs).trans (HFz.out o)
  have hR1 : R < w1.heap.size := Nat.lt_of_lt_of_le hRs hb1.size
  have hF1 : F < w1.heap.size := Nat.lt_of_lt_of_le hFs hb1.size
  clear hb1 HCh HE0 HRc HFc HRz HFz HA hRs hFs
  by_cases hz : x = 0
  · have HV : Hid (y = -1 ∧ z = -1) := by
      have h1 := HX.out
      have h2 := checkE_ok (t := t) (by rw [h1]; exact hz)
      rw [h1] at h2
      simp only [Prod.mk.injEq] at h2
      exact ⟨h2.2.1, h2.2.2⟩
    subst hz
    rw [errV_zero]
    have z0 := rz 0
    have z1 := rz 1
    have z2 := rz 2
    go_wp2_with fail
    refine (as_nil _ w1).mono ?_
    rintro e w2 ⟨rfl, hw⟩
    rw [hw]
    clear hw
    go_wp2_with fail
    obtain ⟨t0, t1, t2⟩ := set3 (u0 := .int .i64 0) (u1 := .int .i64 (-1)) (u2 := .int .i64 (-1)) r0 r1 r2
    refine bodyPost_ret (v := .agg #[.int .i64 0, .int .i64 (-1), .int .i64 (-1)]) (by simp [results, Tryz.results7, go_sem, t0, t1, t2]) rfl ⟨ret_val (by rw [HV.out.1, HV.out.2]), ?_⟩
    exact ((hB1.setCell (p := ⟨R, 0, none⟩) hwR _).setCell (p := ⟨R, 1, none⟩) hwR _).setCell (p := ⟨R, 2, none⟩) hwR _
  · have HZ : Hid (x ≠ 0) := hz
    rw [errV_ne hz]
    have HRz : Hid (∀ o, w1.frozen? ⟨R, o, none⟩ = false) := rz
    have HFz : Hid (∀ o, w1.frozen? ⟨F, o, none⟩ = false) := fz
    clear rz fz hz
    go_wp2_with fail
    refine (as_hit F x y z _ _ _ w1 HE1.out f0 f1 f2 HFz.out).mono ?_
    rintro e w2 ⟨rfl, w3, hb3, hw⟩
    obtain ⟨g0, g1, g2⟩ := set3 (u0 := .int .i64 x) (u1 := .int .i64 y) (u2 := .int .i64 z) ((hb3.cell (p := ⟨F, 0, none⟩) hF1).trans f0) ((hb3.cell (p := ⟨F, 1, none⟩) hF1).trans f1) ((hb3.cell (p := ⟨F, 2, none⟩) hF1).trans f2)
    have hR2 : w2.heap[R]? = w1.heap[R]? := by
      rw [hw, Below.heap_setCell _ _ _ R hRF, Below.heap_setCell _ _ _ R hRF, Below.heap_setCell _ _ _ R hRF]
      exact hb3.block R hR1
    rw [← hw] at g0 g1 g2
    have s0 := (World.cell?_of_block (a := ⟨R, 0, none⟩) hR2).trans r0
    have s1 := (World.cell?_of_block (a := ⟨R, 1, none⟩) hR2).trans r1
    have s2 := (World.cell?_of_block (a := ⟨R, 2, none⟩) hR2).trans r2
    have z0 := (World.frozen?_of_block (a := ⟨R, 0, none⟩) hR2).trans (HRz.out 0)
    have z1 := (World.frozen?_of_block (a := ⟨R, 1, none⟩) hR2).trans (HRz.out 1)
    have z2 := (World.frozen?_of_block (a := ⟨R, 2, none⟩) hR2).trans (HRz.out 2)
    have hB3 : Below w.heap.size w w3 := hB1.trans (hb3.mono hB1.size)
    have hB2 : Below w.heap.size w w2 := by rw [hw]; exact ((hB3.setCell (p := ⟨F, 0, none⟩) hwF _).setCell (p := ⟨F, 1, none⟩) hwF _).setCell (p := ⟨F, 2, none⟩) hwF _
    clear hb3 hw r0 r1 r2 f0 f1 f2 hB3 hR2
    go_wp2_with fail
    obtain ⟨t0, t1, t2⟩ := set3 (u0 := .int .i64 x) (u1 := .int .i64 y) (u2 := .int .i64 z) s0 s1 s2
    refine bodyPost_ret (v := .agg #[.int .i64 x, .int .i64 y, .int .i64 z]) (by simp [results, Tryz.results7, go_sem, t0, t1, t2]) rfl ⟨rfl, ?_⟩
    exact ((hB2.setCell (p := ⟨R, 0, none⟩) hwR _).setCell (p := ⟨R, 1, none⟩) hwR _).setCell (p := ⟨R, 2, none⟩) hwR _

end Go.Proofs.YtmbfkmmfneeleaaGreatDoor
