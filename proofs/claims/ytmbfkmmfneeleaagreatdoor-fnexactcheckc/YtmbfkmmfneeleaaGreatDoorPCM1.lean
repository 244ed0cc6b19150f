import Derived.Test.YtmbfkmmfneeleaaGreatDoorPCL1
import Derived.Test.YtmbfkmmfneeleaaGreatDoorPCL5
import Derived.Test.YtmbfkmmfneeleaaGreatDoorPVN
import Derived.Deep.RegionHeld3
import Derived.Deep.Slices
import Derived.Deep.Fields
import Derived.Lib.SmallJoins
namespace Go.Proofs.YtmbfkmmfneeleaaGreatDoor
open Go.RowKit
set_option linter.unusedVariables false
set_option linter.unusedSimpArgs false

set_option maxHeartbeats 1000000 in
theorem eqRes_any (x y z : Int) (w : World) : Calls Tryz.prog 8 #[.agg #[.int .i64 x, .int .i64 y, .int .i64 z], .agg #[.int .i64 x, .int .i64 y, .int .i64 z]] w fun e w' => e = .returned (.bool true) ∧ Below w.heap.size w w' := by
  go_enter Tryz.func8, Tryz.ntmps8
  go_wp2_with fail
  go_ret
  exact ⟨rfl, ((Below.refl _ _).alloc (Nat.le_refl _) _).alloc (by simp) _⟩
theorem new3 {w W : World} {x y z : Value} {t : TypeId} (h : W = w.alloc (.cells #[x, y, z] t)) : (W.cell? ⟨w.heap.size, 0, none⟩ = some x ∧ W.cell? ⟨w.heap.size, 1, none⟩ = some y ∧ W.cell? ⟨w.heap.size, 2, none⟩ = some z) ∧ Below w.heap.size w W ∧ w.heap.size < W.heap.size := by
  subst h
  exact ⟨⟨by simp, by simp, by simp⟩, (Below.refl _ _).alloc (Nat.le_refl _) _, by simp⟩
theorem new2 {w W : World} {x y : Value} {t : TypeId} (h : W = w.alloc (.cells #[x, y] t)) : (W.cell? ⟨w.heap.size, 0, none⟩ = some x ∧ W.cell? ⟨w.heap.size, 1, none⟩ = some y) ∧ Below w.heap.size w W ∧ w.heap.size < W.heap.size := by
  subst h
  exact ⟨⟨by simp, by simp⟩, (Below.refl _ _).alloc (Nat.le_refl _) _, by simp⟩
theorem keep3 {w w' : World} {b : Nat} {x y z : Value} (h : w.cell? ⟨b, 0, none⟩ = some x ∧ w.cell? ⟨b, 1, none⟩ = some y ∧ w.cell? ⟨b, 2, none⟩ = some z) (hb : Below w.heap.size w w') : w'.cell? ⟨b, 0, none⟩ = some x ∧ w'.cell? ⟨b, 1, none⟩ = some y ∧ w'.cell? ⟨b, 2, none⟩ = some z := by
  have hl := World.block_lt_of_cell? _ _ h.1
  exact ⟨(hb.cell (p := ⟨b, 0, none⟩) hl).trans h.1, (hb.cell (p := ⟨b, 1, none⟩) hl).trans h.2.1, (hb.cell (p := ⟨b, 2, none⟩) hl).trans h.2.2⟩
theorem keep2 {w w' : World} {b : Nat} {x y : Value} (h : w.cell? ⟨b, 0, none⟩ = some x ∧ w.cell? ⟨b, 1, none⟩ = some y) (hb : Below w.heap.size w w') : w'.cell? ⟨b, 0, none⟩ = some x ∧ w'.cell? ⟨b, 1, none⟩ = some y := by
  have hl := World.block_lt_of_cell? _ _ h.1
  exact ⟨(hb.cell (p := ⟨b, 0, none⟩) hl).trans h.1, (hb.cell (p := ⟨b, 1, none⟩) hl).trans h.2⟩

set_option maxRecDepth 100000 in
set_option maxHeartbeats 4000000 in
theorem law_check (t : Tr) (vg vf : Value) (w : World) (hT : Tab w) (hE : ErrT w) (hw : wfT t) (hg : Globs w vg t.globals) (hf : Funcs w vf t.funcs) :
    Calls Tryz.prog 3 #[.agg #[vg, vf]] w fun e w' => e = .returned (.bool true) ∧ Below w.heap.size w w' := by
  haveI : Inhabited Pick := ⟨⟨fun _ h => Classical.choice h⟩⟩
  have HT : Hid (Tab w) := hT
  have HEr : Hid (ErrT w) := hE
  have HW : Hid (wfT t) := hw
  have HG : Hid (Globs w vg t.globals) := hg
  have HF : Hid (Funcs w vf t.funcs) := hf
  have hsz := hT.size
  obtain ⟨ag, cg, rfl, -, -, -⟩ := hg
  obtain ⟨af, cf, rfl, -, -, -⟩ := hf
  clear hT hw hE
  have hA : Below w.heap.size w (w.alloc (.cells #[.slice ag t.globals.length cg, .slice af t.funcs.length cf] 25)) := (Below.refl _ _).alloc (Nat.le_refl _) _
  go_enter Tryz.func3, Tryz.ntmps3
  go_wp2_with fail
  refine (szTree_any t _ _ _ _ ⟨by omega, by omega⟩ HW.out (HG.out.below hA) (HF.out.below hA)).mono ?_
  rintro e w1 ⟨rfl, hb1⟩
  simp only [World.size_alloc] at hb1
  have hB1 := one_below hb1
  by_cases hs : (1048576 : Int) < (szT t : Nat)
  · rw [szR_gt hs]
    clear hs
    go_wp2_with fail
    go_ret
    exact ⟨rfl, hB1⟩
  have HS : Hid (smallT t) := smallT_of (by omega)
  rw [szR_le (show ((szT t : Nat) : Int) ≤ 1048576 by omega)]
  have hq : 0 ≤ (1048576 : Int) - (szT t : Nat) := by omega
  generalize (1048576 : Int) - (szT t : Nat) = q at hq ⊢
  clear hs
  obtain ⟨x0, x1⟩ := box2 hb1
  go_wp2_with fail
  refine (toTree_any t _ _ _ HS.out (HG.out.below hB1) (HF.out.below hB1)).mono ?_
  rintro e w2 ⟨vg2, vf2, rfl, hg2, hf2, hb2⟩
  have HG2 : Hid (Globs w2 vg2 t.globals) := hg2.globs (by have := HS.out.1; omega)
  have HF2 : Hid (Funcs w2 vf2 t.funcs) := hf2.funcs (by have := HS.out.2.1; omega) HS.out.2.2
  have hB2 := hb1.trans (hb2.mono (by have := hb1.size; simp at this; omega))
  clear x0 x1 hg2 hf2
  obtain ⟨x, y, z, hX⟩ : ∃ x y z, checkE t = (x, y, z) := ⟨_, _, _, rfl⟩
  have HX : Hid (resV (checkE t) = .agg #[.int .i64 x, .int .i64 y, .int .i64 z]) := by show _ = _; rw [hX]; rfl
  clear hX
  go_wp2_with fail
  refine (checkCG_any l3block t _ _ _ HS.out HW.out HG2.out HF2.out).mono ?_
  rintro e w3 ⟨rfl, hb3⟩
  rw [HX.out]
  have hB3 := hB2.trans (hb3.mono (by have := hB2.size; simp at this; omega))
  have hB3' := one_below hB3
  have X3 := box2 hB3
  clear HG2 HF2 hb3 hB2 hb2 hb1 hB1 hB3
  obtain ⟨Wa, hWa⟩ : ∃ Wa, Wa = w3.alloc (.cells #[.int .i64 x, .int .i64 y, .int .i64 z] 28) := ⟨_, rfl⟩
  obtain ⟨A3, hba, hla⟩ := new3 hWa
  obtain ⟨A, hA'⟩ : ∃ A, A = w3.heap.size := ⟨_, rfl⟩
  have Xa := keep2 X3 hba
  have hBa := hB3'.trans (hba.mono hB3'.size)
  rw [← hA'] at A3
  have HXa : Hid (Wa.cell? ⟨w.heap.size, 0, none⟩ = some (.slice ag t.globals.length cg) ∧ Wa.cell? ⟨w.heap.size, 1, none⟩ = some (.slice af t.funcs.length cf)) := Xa
  have HA3 : Hid (Wa.cell? ⟨A, 0, none⟩ = some (.int .i64 x) ∧ Wa.cell? ⟨A, 1, none⟩ = some (.int .i64 y) ∧ Wa.cell? ⟨A, 2, none⟩ = some (.int .i64 z)) := A3
  have HWa : Hid (Wa = w3.alloc (.cells #[.int .i64 x, .int .i64 y, .int .i64 z] 28)) := hWa
  have HA' : Hid (A = w3.heap.size) := hA'
  have HBa : Hid (Below w.heap.size w Wa) := hBa
  obtain ⟨x0', x1'⟩ := X3
  have hl3 : w.heap.size < w3.heap.size := World.block_lt_of_cell? _ _ x0'
  clear Xa A3 hWa hA' hba hB3' hla hBa
  go_wp2_with fail
  rw [← HWa.out, ← HA'.out]
  have hBa := HBa.out
  have A3 := HA3.out
  obtain ⟨x0, x1⟩ := HXa.out
  clear x0' x1' hl3 HWa HA' HBa HA3 HXa
  refine (toTree_any t _ _ _ HS.out (HG.out.below hBa) (HF.out.below hBa)).mono ?_
  rintro e w4 ⟨vg4, vf4, rfl, hg4, hf4, hb4⟩
  have HG4 : Hid (Globs w4 vg4 t.globals) := hg4.globs (by have := HS.out.1; omega)
  have HF4 : Hid (Funcs w4 vf4 t.funcs) := hf4.funcs (by have := HS.out.2.1; omega) HS.out.2.2
  obtain ⟨g4, y4, rfl, -, -⟩ := hg4
  obtain ⟨f4, z4, V4, rfl, -, -, -⟩ := hf4
  have A4 := keep3 A3 hb4
  have X4 := keep2 ⟨x0, x1⟩ hb4
  have hB4 := hBa.trans (hb4.mono hBa.size)
  clear x0 x1 A3 hBa hb4
  obtain ⟨Wb, hWb⟩ : ∃ Wb, Wb = w4.alloc (.cells #[.slice (some ⟨g4, 0, none⟩) t.globals.length t.globals.length, .slice (some ⟨f4, 0, none⟩) t.funcs.length t.funcs.length] 33) := ⟨_, rfl⟩
  obtain ⟨T5, hT5⟩ : ∃ T5, T5 = w4.heap.size := ⟨_, rfl⟩
  obtain ⟨Tb, hbb, hlb⟩ := new2 hWb
  rw [← hT5] at Tb
  have Ab := keep3 A4 hbb
  have Xb := keep2 X4 hbb
  have hBb := hB4.trans (hbb.mono hB4.size)
  have HGb : Hid (Globs Wb (.slice (some ⟨g4, 0, none⟩) t.globals.length t.globals.length) t.globals) := HG4.out.below hbb
  have HFb : Hid (Funcs Wb (.slice (some ⟨f4, 0, none⟩) t.funcs.length t.funcs.length) t.funcs) := HF4.out.below hbb
  have HCI : Hid (Calls Tryz.prog 7 #[.agg #[.slice (some ⟨g4, 0, none⟩) t.globals.length t.globals.length, .slice (some ⟨f4, 0, none⟩) t.funcs.length t.funcs.length]] Wb fun e w' => e = .returned (.agg #[.int .i64 x, .int .i64 y, .int .i64 z]) ∧ Below Wb.heap.size Wb w') := by
    have := checkCI_any t _ _ Wb (HT.out.below hsz hBb) (HEr.out.below hBb) HS.out HW.out HGb.out HFb.out
    rw [HX.out] at this
    exact this
  have HWb : Hid (Wb = w4.alloc (.cells #[.slice (some ⟨g4, 0, none⟩) t.globals.length t.globals.length, .slice (some ⟨f4, 0, none⟩) t.funcs.length t.funcs.length] 33)) := hWb
  have HT5 : Hid (T5 = w4.heap.size) := hT5
  have HAb : Hid (Wb.cell? ⟨A, 0, none⟩ = some (.int .i64 x) ∧ Wb.cell? ⟨A, 1, none⟩ = some (.int .i64 y) ∧ Wb.cell? ⟨A, 2, none⟩ = some (.int .i64 z)) := Ab
  have HXb : Hid (Wb.cell? ⟨w.heap.size, 0, none⟩ = some (.slice ag t.globals.length cg) ∧ Wb.cell? ⟨w.heap.size, 1, none⟩ = some (.slice af t.funcs.length cf)) := Xb
  have HTb : Hid (Wb.cell? ⟨T5, 0, none⟩ = some (.slice (some ⟨g4, 0, none⟩) t.globals.length t.globals.length) ∧ Wb.cell? ⟨T5, 1, none⟩ = some (.slice (some ⟨f4, 0, none⟩) t.funcs.length t.funcs.length)) := Tb
  have HBb : Hid (Below w.heap.size w Wb) := hBb
  clear HG4 HF4 hbb hB4 A4 X4 hWb hT5 hlb Ab Xb Tb hBb
  go_wp2_with fail
  rw [← HWb.out, ← HT5.out]
  have Ab := HAb.out
  have Xb := HXb.out
  have Tb := HTb.out
  have hBb := HBb.out
  clear HWb HT5 HAb HXb HTb HBb
  refine HCI.out.mono ?_
  rintro e w5 ⟨rfl, hb5⟩
  have A5 := keep3 Ab hb5
  have X5 := keep2 Xb hb5
  have T5c := keep2 Tb hb5
  have hB5 := hBb.trans (hb5.mono hBb.size)
  have HG5 : Hid (Globs w5 (.slice (some ⟨g4, 0, none⟩) t.globals.length t.globals.length) t.globals) := HGb.out.below hb5
  have HF5 : Hid (Funcs w5 (.slice (some ⟨f4, 0, none⟩) t.funcs.length t.funcs.length) t.funcs) := HFb.out.below hb5
  clear Ab Xb Tb hBb hb5 HGb HFb HCI
  obtain ⟨Wc, hWc⟩ : ∃ Wc, Wc = w5.alloc (.cells #[.int .i64 x, .int .i64 y, .int .i64 z] 28) := ⟨_, rfl⟩
  obtain ⟨-, hbc, -⟩ := new3 hWc
  have HWc : Hid (Wc = w5.alloc (.cells #[.int .i64 x, .int .i64 y, .int .i64 z] 28)) := hWc
  have Hbc : Hid (Below w5.heap.size w5 Wc) := hbc
  obtain ⟨c0, c1, c2⟩ := A5
  have hlA : A < w5.heap.size := World.block_lt_of_cell? _ _ c0
  clear hWc hbc
  go_wp2_with fail
  rw [← HWc.out]
  have hbc := Hbc.out
  clear HWc c0 c1 c2 Hbc hlA
  refine (eqRes_any x y z Wc).mono ?_
  rintro e w7 ⟨rfl, hb7⟩
  have hbd := hbc.trans (hb7.mono hbc.size)
  obtain ⟨x0, x1⟩ := keep2 X5 hbd
  obtain ⟨z0, z1⟩ := keep2 T5c hbd
  have hB7' := hB5.trans (hbd.mono hB5.size)
  have HG7 : Hid (Globs w7 (.slice (some ⟨g4, 0, none⟩) t.globals.length t.globals.length) t.globals) := HG5.out.below hbd
  have HF7 : Hid (Funcs w7 (.slice (some ⟨f4, 0, none⟩) t.funcs.length t.funcs.length) t.funcs) := HF5.out.below hbd
  have HGA : Hid (Globs w7 (.slice ag t.globals.length cg) t.globals) := HG.out.below hB7'
  have HFA : Hid (Funcs w7 (.slice af t.funcs.length cf) t.funcs) := HF.out.below hB7'
  have hl0 : w.heap.size < w7.heap.size := World.block_lt_of_cell? _ _ x0
  have hl4 : T5 < w7.heap.size := World.block_lt_of_cell? _ _ z0
  have hdr : Below w7.heap.size w7 w7.drew := (Below.refl _ _).drew
  clear hbc hb7 hbd X5 T5c hB5 HG5 HF5 hA
  go_wp2_with fail
  go_region_held3 (fun W => W.cell? ⟨w.heap.size, 0, none⟩ = some (.slice ag t.globals.length cg) ∧ W.cell? ⟨w.heap.size, 1, none⟩ = some (.slice af t.funcs.length cf) ∧ W.cell? ⟨T5, 0, none⟩ = some (.slice (some ⟨g4, 0, none⟩) t.globals.length t.globals.length) ∧ W.cell? ⟨T5, 1, none⟩ = some (.slice (some ⟨f4, 0, none⟩) t.funcs.length t.funcs.length)) (go_simp)
    (first
    | (go_at_call 6; refine (toTree_any t _ _ _ HS.out (HGA.out.below hdr) (HFA.out.below hdr)).mono ?_; rintro e w8 ⟨vg8, vf8, rfl, hg8, hf8, hb8⟩; have hcc : ∀ b o, b < w7.heap.size → w8.cell? ⟨b, o, none⟩ = w7.cell? ⟨b, o, none⟩ := (bcell hb8).1; have HG8 : Hid (Globs w8 vg8 t.globals) := hg8.globs (by have := HS.out.1; omega); have HF8 : Hid (Funcs w8 vf8 t.funcs) := hf8.funcs (by have := HS.out.2.1; omega) HS.out.2.2; clear hg8 hf8; have hl06 : w.heap.size < w8.heap.size := Nat.lt_of_lt_of_le hl0 hb8.size; have hl46 : T5 < w8.heap.size := Nat.lt_of_lt_of_le hl4 hb8.size)
    | (go_at_call 9; refine (eqTree_any t _ _ _ _ _ HS.out (HG7.out.below (hdr.trans hb8)) (HF7.out.below (hdr.trans hb8)) HG8.out HF8.out).mono ?_; rintro e w9 ⟨rfl, hb9⟩; have hcc : ∀ b o, b < w8.heap.size → w9.cell? ⟨b, o, none⟩ = w8.cell? ⟨b, o, none⟩ := (bcell hb9).1))
  have hB9 := hB7'.trans (((hdr.trans hb8).trans (hb9.mono hb8.size)).mono (by omega))
  go_wp2_with fail
  go_ret
  exact ⟨rfl, hB9⟩

end Go.Proofs.YtmbfkmmfneeleaaGreatDoor

namespace Go.Proofs.YtmbfkmmfneeleaaGreatDoor
open Go.RowKit Go.Deep Go.ChangeShapes Go.WideShapes
set_option linter.unusedVariables false
set_option linter.unusedSimpArgs false

section
variable {H : Type} {enc : TypeId × Value → H} {W : World} {base : Nat} {spare : Nat → Bool} {held : Bool}

theorem fields1 {t : TypeId} {fs : Array Field} {fuel : Nat} {cs : List Value} {x : DataW H × List MemPlace} (ht : Tryz.prog.underlying t = some (.struct fs)) (hone : oneCellFields Tryz.prog fs = true) (hC : Tryz.prog.cellsOf t = fs.size) (h : DataW.trod enc Tryz.prog W base spare held fuel t cs = some x) :
    ∃ n, cs.length = fs.size ∧ ∀ i f, fs[i]? = some f → ∃ y, DataW.trod enc Tryz.prog W base spare held n f.type [cs.getD i .nilFunc] = some y := by
  obtain ⟨xs, n, _, _, hl, hx, hf⟩ := DataW.trod_struct ht h
  refine ⟨n, hl.trans hC, fun i f hi => ?_⟩
  have hlt : i < fs.size := (Array.getElem?_eq_some_iff.1 hi).1
  obtain ⟨o, c⟩ := hone_of hone i f hi
  have := hf i f hi
  rw [o, c, take1_drop cs i .nilFunc (by omega)] at this
  rw [this]
  exact ⟨xs[i]'(by omega), by simp⟩

/-- The cells of one element of a slice. -/
theorem elem_cells {b off m i k : Nat} {cs : List Value} (h : W.cells? base ((⟨b, off, none⟩ : Addr).add (i * m)) m = some cs) (hk : k < m) : W.cell? ⟨b, off + i * m + k, none⟩ = cs[k]? := by
  obtain ⟨_, _, hc⟩ := World.cells?_some h
  have := hc k hk
  rw [add_add] at this
  rw [← this]
  congr 1
  simp only [Addr.add]
  split
  · simp only [Addr.mk.injEq, and_true, true_and]; omega
  · simp only [Addr.mk.injEq, and_true, true_and]; omega
theorem spot_none {a : Addr} {m : Nat} {cs : List Value} (h : W.cells? base (a.add (0 * m)) m = some cs) (hm : 0 < m) : ∃ b off, a = ⟨b, off, none⟩ := by
  obtain ⟨b, off, spot⟩ := a
  obtain ⟨_, hl, hc⟩ := World.cells?_some h
  have h0 := hc 0 hm
  rw [List.getElem?_eq_getElem (by omega)] at h0
  have hs : spot = none := by simpa [Addr.add] using World.cell?_spot h0
  exact ⟨b, off, by rw [hs]⟩
/-- From each element's reading to a list. -/
theorem slice_list {α : Type} (i0 : α) {t e : TypeId} {m fuel : Nat} {v : Value} {x : DataW H × List MemPlace} (ht : Tryz.prog.underlying t = some (.slice e)) (hm : Tryz.prog.cellsOf e = m) (hpos : 0 < m) (P : α → List Value → Prop)
    (hel : ∀ n cs y, DataW.trod enc Tryz.prog W base spare held n e cs = some y → ∃ z, P z cs) (h : DataW.trod enc Tryz.prog W base spare held fuel t [v] = some x) :
    ∃ (a : Option Addr) (ns : List α) (cap : Nat), v = .slice a ns.length cap ∧ ns.length ≤ cap ∧ cap ≤ 9223372036854775807 ∧ (∀ z ∈ ns, ∃ cs, P z cs) ∧
      (0 < ns.length → ∃ b off, a = some ⟨b, off, none⟩ ∧ ∀ j (hj : j < ns.length), ∃ cs, P ns[j] cs ∧ ∀ k, k < m → W.cell? ⟨b, off + j * m + k, none⟩ = cs[k]?) := by
  haveI : Inhabited α := ⟨i0⟩
  rcases open_slice ht h with ⟨hc, _⟩ | ⟨a, len, cap, mm, n, D, Pl, hcs, _, hl, hcap, hmm, _, hx⟩
  · simp only [List.cons.injEq, and_true] at hc
    subst hc
    exact ⟨none, [], 0, rfl, Nat.le_refl _, by omega, by simp, fun h => absurd h (Nat.lt_irrefl _)⟩
  · simp only [List.cons.injEq, and_true] at hcs
    subst hcs
    unfold maxLen at hcap
    rw [hm] at hx
    have hle : len ≤ mm := by rw [hmm]; split <;> omega
    obtain ⟨f, hf⟩ := choose_lt (α := α) (n := len) (p := fun i z => ∃ cs, P z cs ∧ W.cells? base (a.add (i * m)) m = some cs) (fun i hi => by
      obtain ⟨cs, h1, h2⟩ := hx i (by omega)
      obtain ⟨z, hz⟩ := hel _ _ _ h2
      exact ⟨z, cs, hz, h1⟩)
    refine ⟨some a, (List.range len).map f, cap, by simp, by simpa using hl, by omega, fun z hz => ?_, fun h0 => ?_⟩
    · obtain ⟨i, hi, rfl⟩ := List.mem_map.1 hz
      obtain ⟨cs, h1, _⟩ := hf i (List.mem_range.1 hi)
      exact ⟨cs, h1⟩
    · simp only [List.length_map, List.length_range] at h0
      obtain ⟨cs0, _, hc0⟩ := hf 0 h0
      obtain ⟨b, off, rfl⟩ := spot_none hc0 hpos
      refine ⟨b, off, rfl, fun j hj => ?_⟩
      simp only [List.length_map, List.length_range] at hj
      obtain ⟨cs, h1, h2⟩ := hf j hj
      refine ⟨cs, by simpa using h1, fun k hk => elem_cells h2 hk⟩

def cellsN (n : Nd) (cs : List Value) : Prop := cs = [.int .i64 n.kind, .int .i64 n.val, .string n.name] ∧ n.name.size ≤ 9223372036854775807
theorem list3 {cs : List Value} (h : cs.length = 3) : cs = [cs.getD 0 .nilFunc, cs.getD 1 .nilFunc, cs.getD 2 .nilFunc] := by
  match cs, h with
  | [a, b, c], _ => rfl
theorem list2 {cs : List Value} (h : cs.length = 2) : cs = [cs.getD 0 .nilFunc, cs.getD 1 .nilFunc] := by
  match cs, h with
  | [a, b], _ => rfl
theorem list6 {cs : List Value} (h : cs.length = 6) : cs = [cs.getD 0 .nilFunc, cs.getD 1 .nilFunc, cs.getD 2 .nilFunc, cs.getD 3 .nilFunc, cs.getD 4 .nilFunc, cs.getD 5 .nilFunc] := by
  match cs, h with
  | [a, b, c, d, e, f], _ => rfl
theorem rd_int {fuel : Nat} {c : Value} {y : DataW H × List MemPlace} (h : DataW.trod enc Tryz.prog W base spare held fuel 2 [c] = some y) : ∃ z : Int, c = .int .i64 z := by
  obtain ⟨z, hz, _, _⟩ := DataW.trod_int Tryz.underlying2 h
  exact ⟨z, by simpa using hz⟩
theorem rd_str {fuel : Nat} {c : Value} {y : DataW H × List MemPlace} (h : DataW.trod enc Tryz.prog W base spare held fuel 9 [c] = some y) : ∃ s : ByteArray, c = .string s ∧ s.size ≤ 9223372036854775807 := by
  obtain ⟨s, hs, _, hm⟩ := DataW.trod_string Tryz.underlying9 h
  unfold maxLen at hm
  exact ⟨s, by simpa using hs, by omega⟩
theorem rd_node {fuel : Nat} {cs : List Value} {y : DataW H × List MemPlace} (h : DataW.trod enc Tryz.prog W base spare held fuel 177 cs = some y) : ∃ n, cellsN n cs := by
  obtain ⟨n, hl, hf⟩ := fields1 Tryz.underlying177 (by kernel_rfl) (by kernel_rfl) h
  obtain ⟨_, h0⟩ := hf 0 _ rfl
  obtain ⟨_, h1⟩ := hf 1 _ rfl
  obtain ⟨_, h2⟩ := hf 2 _ rfl
  obtain ⟨k, e0⟩ := rd_int h0
  obtain ⟨v, e1⟩ := rd_int h1
  obtain ⟨s, e2, hs⟩ := rd_str h2
  exact ⟨⟨k, v, s⟩, by rw [list3 hl, e0, e1, e2], hs⟩
theorem rd_nodes {fuel : Nat} {v : Value} {y : DataW H × List MemPlace} (h : DataW.trod enc Tryz.prog W base spare held fuel 146 [v] = some y) : ∃ ns, Nodes W v ns ∧ wfNs ns := by
  obtain ⟨a, ns, cap, rfl, hl, hc, hall, hx⟩ := slice_list (⟨0, 0, ⟨#[]⟩⟩ : Nd) (m := 3) Tryz.underlying146 (by kernel_rfl) (by omega) cellsN (fun n cs y h => rd_node h) h
  refine ⟨ns, ⟨a, cap, rfl, hl, hc, fun h0 => ?_⟩, by omega, fun n hn => ?_⟩
  · obtain ⟨b, off, rfl, hj⟩ := hx h0
    refine ⟨b, off, rfl, fun j hlt => ?_⟩
    obtain ⟨cs, ⟨rfl, _⟩, hk⟩ := hj j hlt
    exact ⟨hk 0 (by omega), hk 1 (by omega), hk 2 (by omega)⟩
  · obtain ⟨cs, _, hs⟩ := hall n hn
    exact hs
def cellsS (W : World) (s : St) (cs : List Value) : Prop := ∃ ve vf, cs = [.int .i64 s.kind, .string s.name, ve, vf, .int .i64 s.thn, .int .i64 s.els] ∧ Nodes W ve s.e ∧ Nodes W vf s.f ∧ wfSt s
theorem rd_stmt {fuel : Nat} {cs : List Value} {y : DataW H × List MemPlace} (h : DataW.trod enc Tryz.prog W base spare held fuel 148 cs = some y) : ∃ s, cellsS W s cs := by
  obtain ⟨n, hl, hf⟩ := fields1 Tryz.underlying148 (by kernel_rfl) (by kernel_rfl) h
  obtain ⟨_, h0⟩ := hf 0 _ rfl
  obtain ⟨_, h1⟩ := hf 1 _ rfl
  obtain ⟨_, h2⟩ := hf 2 _ rfl
  obtain ⟨_, h3⟩ := hf 3 _ rfl
  obtain ⟨_, h4⟩ := hf 4 _ rfl
  obtain ⟨_, h5⟩ := hf 5 _ rfl
  obtain ⟨k, e0⟩ := rd_int h0
  obtain ⟨s, e1, hs⟩ := rd_str h1
  obtain ⟨es, n2, w2⟩ := rd_nodes h2
  obtain ⟨fs, n3, w3⟩ := rd_nodes h3
  obtain ⟨t, e4⟩ := rd_int h4
  obtain ⟨l, e5⟩ := rd_int h5
  exact ⟨⟨k, s, es, fs, t, l⟩, _, _, by rw [list6 hl, e0, e1, e4, e5]; rfl, n2, n3, hs, w2, w3⟩
theorem rd_stmts {fuel : Nat} {v : Value} {y : DataW H × List MemPlace} (h : DataW.trod enc Tryz.prog W base spare held fuel 64 [v] = some y) : ∃ ns, Stmts W v ns ∧ wfSs ns := by
  obtain ⟨a, ns, cap, rfl, hl, hc, hall, hx⟩ := slice_list (⟨0, ⟨#[]⟩, [], [], 0, 0⟩ : St) (m := 6) Tryz.underlying64 (by kernel_rfl) (by omega) (cellsS W) (fun n cs y h => rd_stmt h) h
  refine ⟨ns, ⟨a, cap, rfl, hl, hc, fun h0 => ?_⟩, by omega, fun n hn => ?_⟩
  · obtain ⟨b, off, rfl, hj⟩ := hx h0
    refine ⟨b, off, rfl, fun j hlt => ?_⟩
    obtain ⟨cs, ⟨ve, vf, rfl, he, hf, _⟩, hk⟩ := hj j hlt
    exact ⟨ve, vf, ⟨hk 0 (by omega), hk 1 (by omega), hk 2 (by omega), hk 3 (by omega), hk 4 (by omega), hk 5 (by omega)⟩, he, hf⟩
  · obtain ⟨cs, _, _, _, _, _, hs⟩ := hall n hn
    exact hs
def cellsP (s : ByteArray) (cs : List Value) : Prop := cs = [.string s] ∧ s.size ≤ 9223372036854775807
theorem rd_strs {fuel : Nat} {v : Value} {y : DataW H × List MemPlace} (h : DataW.trod enc Tryz.prog W base spare held fuel 63 [v] = some y) : ∃ ns, Strs W v ns ∧ wfPs ns := by
  obtain ⟨a, ns, cap, rfl, hl, hc, hall, hx⟩ := slice_list (⟨#[]⟩ : ByteArray) (m := 1) Tryz.underlying63 (by kernel_rfl) (by omega) cellsP (fun n cs y h => by
    obtain ⟨s, hs, _, hm⟩ := DataW.trod_string Tryz.underlying9 h
    unfold maxLen at hm
    exact ⟨s, hs, by omega⟩) h
  refine ⟨ns, ⟨a, cap, rfl, hl, hc, fun h0 => ?_⟩, by omega, fun n hn => ?_⟩
  · obtain ⟨b, off, rfl, hj⟩ := hx h0
    refine ⟨b, off, rfl, fun j hlt => ?_⟩
    obtain ⟨cs, ⟨rfl, _⟩, hk⟩ := hj j hlt
    have := hk 0 (by omega)
    rw [show off + j * 1 + 0 = off + j by omega] at this
    exact this
  · obtain ⟨cs, _, hs⟩ := hall n hn
    exact hs
def cellsG (g : Gl) (cs : List Value) : Prop := cs = [.string g.name, .int .i64 g.size] ∧ g.name.size ≤ 9223372036854775807
theorem rd_glob {fuel : Nat} {cs : List Value} {y : DataW H × List MemPlace} (h : DataW.trod enc Tryz.prog W base spare held fuel 61 cs = some y) : ∃ n, cellsG n cs := by
  obtain ⟨n, hl, hf⟩ := fields1 Tryz.underlying61 (by kernel_rfl) (by kernel_rfl) h
  obtain ⟨_, h0⟩ := hf 0 _ rfl
  obtain ⟨_, h1⟩ := hf 1 _ rfl
  obtain ⟨s, e0, hs⟩ := rd_str h0
  obtain ⟨k, e1⟩ := rd_int h1
  exact ⟨⟨s, k⟩, by rw [list2 hl, e0, e1], hs⟩
theorem rd_globs {fuel : Nat} {v : Value} {y : DataW H × List MemPlace} (h : DataW.trod enc Tryz.prog W base spare held fuel 22 [v] = some y) : ∃ ns, Globs W v ns ∧ wfGs ns := by
  obtain ⟨a, ns, cap, rfl, hl, hc, hall, hx⟩ := slice_list (⟨⟨#[]⟩, 0⟩ : Gl) (m := 2) Tryz.underlying22 (by kernel_rfl) (by omega) cellsG (fun n cs y h => rd_glob h) h
  refine ⟨ns, ⟨a, cap, rfl, hl, hc, fun h0 => ?_⟩, by omega, fun n hn => ?_⟩
  · obtain ⟨b, off, rfl, hj⟩ := hx h0
    refine ⟨b, off, rfl, fun j hlt => ?_⟩
    obtain ⟨cs, ⟨rfl, _⟩, hk⟩ := hj j hlt
    exact ⟨hk 0 (by omega), hk 1 (by omega)⟩
  · obtain ⟨cs, _, hs⟩ := hall n hn
    exact hs
def cellsF (W : World) (s : Fu) (cs : List Value) : Prop := ∃ vp vb, cs = [.string s.name, vp, vb] ∧ Strs W vp s.params ∧ Stmts W vb s.body ∧ wfFu s
theorem rd_func {fuel : Nat} {cs : List Value} {y : DataW H × List MemPlace} (h : DataW.trod enc Tryz.prog W base spare held fuel 66 cs = some y) : ∃ s, cellsF W s cs := by
  obtain ⟨n, hl, hf⟩ := fields1 Tryz.underlying66 (by kernel_rfl) (by kernel_rfl) h
  obtain ⟨_, h0⟩ := hf 0 _ rfl
  obtain ⟨_, h1⟩ := hf 1 _ rfl
  obtain ⟨_, h2⟩ := hf 2 _ rfl
  obtain ⟨s, e0, hs⟩ := rd_str h0
  obtain ⟨ps, n1, w1⟩ := rd_strs h1
  obtain ⟨ss, n2, w2⟩ := rd_stmts h2
  exact ⟨⟨s, ps, ss⟩, _, _, by rw [list3 hl, e0]; rfl, n1, n2, hs, w1, w2⟩
theorem rd_funcs {fuel : Nat} {v : Value} {y : DataW H × List MemPlace} (h : DataW.trod enc Tryz.prog W base spare held fuel 23 [v] = some y) : ∃ ns, Funcs W v ns ∧ wfFs ns := by
  obtain ⟨a, ns, cap, rfl, hl, hc, hall, hx⟩ := slice_list (⟨⟨#[]⟩, [], []⟩ : Fu) (m := 3) Tryz.underlying23 (by kernel_rfl) (by omega) (cellsF W) (fun n cs y h => rd_func h) h
  refine ⟨ns, ⟨a, cap, rfl, hl, hc, fun h0 => ?_⟩, by omega, fun n hn => ?_⟩
  · obtain ⟨b, off, rfl, hj⟩ := hx h0
    refine ⟨b, off, rfl, fun j hlt => ?_⟩
    obtain ⟨cs, ⟨vp, vb, rfl, he, hf, _⟩, hk⟩ := hj j hlt
    exact ⟨vp, vb, ⟨hk 0 (by omega), hk 1 (by omega), hk 2 (by omega)⟩, he, hf⟩
  · obtain ⟨cs, _, _, _, _, _, hs⟩ := hall n hn
    exact hs
end

end Go.Proofs.YtmbfkmmfneeleaaGreatDoor
