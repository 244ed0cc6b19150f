import Derived.Test.YtlbdmahkmangbaaGreatDoorQHC
import Derived.Test.YtlbdmahkmangbaaGreatDoorQCC1
import Derived.Test.YtlbdmahkmangbaaGreatDoorQX3
import Derived.Test.YtlbdmahkmangbaaGreatDoorQVN
import Derived.Deep.RegionHeld3
import Derived.Deep.Slices
import Derived.Deep.Fields
import Derived.Lib.SmallJoins
namespace Go.Proofs.YtlbdmahkmangbaaGreatDoor
open Go.RowKit
set_option linter.unusedVariables false
set_option linter.unusedSimpArgs false

theorem fl_len [Inhabited Pick] {t : Tr} (h : smallT t) : (framesL t).length ≤ 100000000 := by
  have := framesL_len t
  have := h.2.1
  omega

set_option maxRecDepth 100000 in
set_option maxHeartbeats 4000000 in
theorem law_frames (t : Tr) (vg vf : Value) (w : World) (hT : Tab w) (hw : wfT t) (hg : Globs w vg t.globals) (hf : Funcs w vf t.funcs) :
    Calls Tryz.prog 3 #[.agg #[vg, vf]] w fun e w' => e = .returned (.bool true) ∧ Below w.heap.size w w' := by
  haveI : Inhabited Pick := ⟨⟨fun _ h => Classical.choice h⟩⟩
  have HT : Hid (Tab w) := hT
  have HW : Hid (wfT t) := hw
  have HG : Hid (Globs w vg t.globals) := hg
  have HF : Hid (Funcs w vf t.funcs) := hf
  have hsz := hT.size
  obtain ⟨ag, cg, rfl, -, -, -⟩ := hg
  obtain ⟨af, cf, rfl, -, -, -⟩ := hf
  clear hT hw
  have hA : Below w.heap.size w (w.alloc (.cells #[.slice ag t.globals.length cg, .slice af t.funcs.length cf] 25)) := (Below.refl _ _).alloc (Nat.le_refl _) _
  go_enter Tryz.func3, Tryz.ntmps3
  go_wp2_with fail
  refine (szTree_any t _ _ _ _ ⟨by omega, by omega⟩ HW.out (HG.out.below hA) (HF.out.below hA)).mono ?_
  rintro e w1 ⟨rfl, hb1⟩
  simp only [World.size_alloc] at hb1
  have hB1 := one_below hb1
  by_cases hs : (1048576 : Int) < (szT t : Nat)
  · rw [szR_gt hs]
    clear hs
    go_wp2_with fail
    go_ret
    exact ⟨rfl, hB1⟩
  have HS : Hid (smallT t) := smallT_of (by omega)
  have HCn : Hid (cntT t ≤ 4194304) := by have := cntT_le t; show _ ≤ _; omega
  rw [szR_le (show ((szT t : Nat) : Int) ≤ 1048576 by omega)]
  have hq : 0 ≤ (1048576 : Int) - (szT t : Nat) := by omega
  generalize (1048576 : Int) - (szT t : Nat) = q at hq ⊢
  clear hs
  obtain ⟨x0, x1⟩ := box2 hb1
  go_wp2_with fail
  refine (toTree_any t _ _ _ HS.out (HG.out.below hB1) (HF.out.below hB1)).mono ?_
  rintro e w2 ⟨vg2, vf2, rfl, hg2, hf2, hb2⟩
  have HG2 : Hid (Globs w2 vg2 t.globals) := hg2.globs (by have := HS.out.1; omega)
  have HF2 : Hid (Funcs w2 vf2 t.funcs) := hf2.funcs (by have := HS.out.2.1; omega) HS.out.2.2
  have hB2 := hb1.trans (hb2.mono (by have := hb1.size; simp at this; omega))
  clear x0 x1 hg2 hf2
  go_wp2_with fail
  refine (framesG_any t _ _ _ HS.out HW.out HG2.out HF2.out).mono ?_
  rintro e w3 ⟨vw, rfl, hvw, hb3⟩
  have HVW : Hid (Ints w3 vw (framesL t)) := own_ints hvw
  have HLn : Hid ((framesL t).length ≤ 100000000) := fl_len HS.out
  have hB3 := hB2.trans (hb3.mono (by have := hB2.size; simp at this; omega))
  have hB3' := one_below hB3
  have hsz3 : w.heap.size + 1 ≤ w3.heap.size := by have := hB3.size; simpa using this
  clear HG2 HF2 hb3 hB2 hb2 hb1 hB1 hvw
  obtain ⟨x0, x1⟩ := box2 hB3
  go_wp2_with fail
  refine (toTree_any t _ _ _ HS.out (HG.out.below hB3') (HF.out.below hB3')).mono ?_
  rintro e w4 ⟨vg4, vf4, rfl, hg4, hf4, hb4⟩
  have HG4 : Hid (Globs w4 vg4 t.globals) := hg4.globs (by have := HS.out.1; omega)
  have HF4 : Hid (Funcs w4 vf4 t.funcs) := hf4.funcs (by have := HS.out.2.1; omega) HS.out.2.2
  have HPG : Hid (PlainM w3.heap.size w4.heap.size 73 2 w4 vg4 t.globals.length) := hg4.plain
  have HPF : Hid (FuncsM w3.heap.size w4.heap.size w4 vf4 t.funcs) := hf4.marks
  obtain ⟨g4, y4, rfl, -, -⟩ := hg4
  obtain ⟨f4, z4, V4, rfl, -, -, -⟩ := hf4
  have hB4 := hB3.trans (hb4.mono (by have := hB3.size; simp at this; omega))
  have hB4' := one_below hB4
  have HB34 : Hid (Below w3.heap.size w3 w4) := hb4
  have hsz4 := hb4.size
  clear x0 x1 hb4 hB3 hB3'
  go_wp2_with fail
  have hX : Below w4.heap.size w4 (w4.alloc (.cells #[.slice (some ⟨g4, 0, none⟩) t.globals.length t.globals.length, .slice (some ⟨f4, 0, none⟩) t.funcs.length t.funcs.length] 32)) := (Below.refl _ _).alloc (Nat.le_refl _) _
  have hB4x := hB4'.trans (hX.mono hB4'.size)
  refine (framesI_any t _ _ _ (HT.out.below hsz hB4x) HS.out HW.out (HG4.out.below hX) (HF4.out.below hX)).mono ?_
  rintro e w5 ⟨v5, rfl, hown5, hb5⟩
  simp only [World.size_alloc] at hb5
  have hown5 : FRow (w4.heap.size + 1) w5 v5 (framesL t) := by simpa only [World.size_alloc] using hown5
  have hX5 := one_below hb5
  have hB5 := hB4.trans (hX5.mono (by have := hB4.size; simp at this; omega))
  have hB5' := one_below hB5
  have HO5 : Hid (w5.ownsRow (w4.heap.size + 1) 2 1 v5 (framesL t).length ((framesL t).map (Value.int .i64))) := hown5
  have HX4 : Hid (Below (w4.heap.size + 1) (w4.alloc (.cells #[.slice (some ⟨g4, 0, none⟩) t.globals.length t.globals.length, .slice (some ⟨f4, 0, none⟩) t.funcs.length t.funcs.length] 32)) w5) := hb5
  have hsz5 : w4.heap.size + 1 ≤ w5.heap.size := by have := hb5.size; simpa using this
  have HB35 : Hid (Below w3.heap.size w3 w5) := HB34.out.trans (hX5.mono hsz4)
  clear hown5
  go_wp2_with fail
  refine (eqI_any _ _ (framesL t) w5 HLn.out (own_ints HO5.out) (HVW.out.below HB35.out)).mono ?_
  rintro e w6 ⟨rfl, hb6⟩
  have hX6 := hX5.trans (hb6.mono hX5.size)
  have hB6 := hB5.trans (hb6.mono (by have := hB5.size; simpa using this))
  have hB6' := one_below hB6
  have hb6x := hb5.trans (hb6.mono (by have := hb5.size; simpa using this))
  have HO6 : Hid (w6.ownsRow (w4.heap.size + 1) 2 1 v5 (framesL t).length ((framesL t).map (Value.int .i64))) := ownb_below HO5.out hb6
  have HB36 : Hid (Below w3.heap.size w3 w6) := HB35.out.trans (hb6.mono HB35.out.size)
  obtain ⟨x0, x1⟩ := box2 hB6
  obtain ⟨z0, z1⟩ := box2 hb6x
  have hl0 : w.heap.size < w6.heap.size := by have := hB6.size; simp at this; omega
  have hl4 : w4.heap.size < w6.heap.size := by have := hb6x.size; simp at this; omega
  have HG5 : Hid (Globs w6 (.slice (some ⟨g4, 0, none⟩) t.globals.length t.globals.length) t.globals) := HG4.out.below hX6
  have HF5 : Hid (Funcs w6 (.slice (some ⟨f4, 0, none⟩) t.funcs.length t.funcs.length) t.funcs) := HF4.out.below hX6
  have HGA : Hid (Globs w6 (.slice ag t.globals.length cg) t.globals) := HG.out.below hB6'
  have HFA : Hid (Funcs w6 (.slice af t.funcs.length cf) t.funcs) := HF.out.below hB6'
  have hdr : Below w6.heap.size w6 w6.drew := (Below.refl _ _).drew
  clear HG4 HF4 hX hX5 hb5 hB4 hB4' hA hB4x hB5 hB5' hb6 HO5 HB35 HX4 HB34
  go_wp2_with fail
  go_region_held3 (fun W => W.cell? ⟨w.heap.size, 0, none⟩ = some (.slice ag t.globals.length cg) ∧ W.cell? ⟨w.heap.size, 1, none⟩ = some (.slice af t.funcs.length cf) ∧ W.cell? ⟨w4.heap.size, 0, none⟩ = some (.slice (some ⟨g4, 0, none⟩) t.globals.length t.globals.length) ∧ W.cell? ⟨w4.heap.size, 1, none⟩ = some (.slice (some ⟨f4, 0, none⟩) t.funcs.length t.funcs.length)) (go_simp)
    (first
    | (go_at_call 6; refine (toTree_any t _ _ _ HS.out (HGA.out.below hdr) (HFA.out.below hdr)).mono ?_; rintro e w7 ⟨vg7, vf7, rfl, hg7, hf7, hb7⟩; have hcc : ∀ b o, b < w6.heap.size → w7.cell? ⟨b, o, none⟩ = w6.cell? ⟨b, o, none⟩ := (bcell hb7).1; have HG7 : Hid (Globs w7 vg7 t.globals) := hg7.globs (by have := HS.out.1; omega); have HF7 : Hid (Funcs w7 vf7 t.funcs) := hf7.funcs (by have := HS.out.2.1; omega) HS.out.2.2; clear hg7 hf7; have hl07 : w.heap.size < w7.heap.size := Nat.lt_of_lt_of_le hl0 hb7.size; have hl47 : w4.heap.size < w7.heap.size := Nat.lt_of_lt_of_le hl4 hb7.size)
    | (go_at_call 9; refine (eqTree_any t _ _ _ _ _ HS.out (HG5.out.below (hdr.trans hb7)) (HF5.out.below (hdr.trans hb7)) HG7.out HF7.out).mono ?_; rintro e w8 ⟨rfl, hb8⟩; have hcc : ∀ b o, b < w7.heap.size → w8.cell? ⟨b, o, none⟩ = w7.cell? ⟨b, o, none⟩ := (bcell hb8).1))
  have hb68 : Below w6.heap.size w6 w8 := (hdr.trans hb7).trans (hb8.mono hb7.size)
  have hX8 := hX6.trans (hb68.mono hX6.size)
  have hB8 := hB6.trans (hb68.mono (by have := hB6.size; simpa using this))
  have hb8x := hb6x.trans (hb68.mono (by have := hb6x.size; simpa using this))
  have HO8 : Hid (w8.ownsRow (w4.heap.size + 1) 2 1 v5 (framesL t).length ((framesL t).map (Value.int .i64))) := ownb_below HO6.out hb68
  have HB38 : Hid (Below w3.heap.size w3 w8) := HB36.out.trans (hb68.mono HB36.out.size)
  have HSh8 : Hid (Sh w3.heap.size w4.heap.size w4 w8) := Sh.of_below hX8
  clear x0 x1 z0 z1 hB6 hB6' hb6x hX6 HO6 HB36 HG5 HF5 HGA HFA hdr hb68 HG7 HF7 hl0 hl4 hl07 hl47
  obtain ⟨x0, x1⟩ := box2 hB8
  obtain ⟨z0, z1⟩ := box2 hb8x
  go_wp2_with fail
  refine (markTree_any w3.heap.size w4.heap.size _ _ t 1 w8 hX8.size HS.out (by omega) (by have := HCn.out; omega) (HPG.out.sh HSh8.out) (HPF.out.sh HSh8.out)).mono ?_
  rintro e w9 ⟨rfl, hsh⟩
  have hB89 : Below w3.heap.size w8 w9 := hsh.below HB38.out.size
  have hB9 := hB8.trans (hB89.mono (by omega))
  have HB39 : Hid (Below w3.heap.size w3 w9) := HB38.out.trans hB89
  have HO9 : Hid (w9.ownsRow (w4.heap.size + 1) 2 1 v5 (framesL t).length ((framesL t).map (Value.int .i64))) := ownb_keep HO8.out fun g hg hlt => by
    rcases hsh.block g hlt with h | ⟨_, h, _⟩
    · exact h
    · omega
  have hk0 : (0 : Int) ≤ ((1 + cntT t : Nat) : Int) := by omega
  generalize ((1 + cntT t : Nat) : Int) = kc at hk0 ⊢
  have hsz9 : w3.heap.size ≤ w9.heap.size := HB39.out.size
  clear x0 x1 z0 z1 hsh hB89 HO8 HB38 HSh8 hX8 hb8x hB8
  go_wp2_with fail
  refine (eqI_any _ _ (framesL t) w9 HLn.out (own_ints HO9.out) (HVW.out.below HB39.out)).mono ?_
  rintro e w10 ⟨rfl, hb10⟩
  have hB10 := hB9.trans (hb10.mono (by have := hB9.size; simpa using this))
  have HB310 : Hid (Below w3.heap.size w3 w10) := HB39.out.trans (hb10.mono HB39.out.size)
  have HO10 : Hid (w10.ownsRow (w4.heap.size + 1) 2 1 v5 (framesL t).length ((framesL t).map (Value.int .i64))) := ownb_below HO9.out hb10
  clear hb10 HO9 HB39 hB9
  go_wp2_with fail
  refine (markO_any HLn.out HO10.out).mono ?_
  rintro e w11 ⟨rfl, hb11, hmk⟩
  obtain ⟨mm, hmm⟩ : ∃ mm : Int, mm = ((1 + (framesL t).length : Nat) : Int) := ⟨_, rfl⟩
  rw [← hmm]
  have HMm : Hid (mm = ((1 + (framesL t).length : Nat) : Int)) := hmm
  have hm0 : (0 : Int) ≤ mm := by omega
  clear hmm
  have hB11 := hB10.trans (hb11.mono (by omega))
  have HB311 : Hid (Below w3.heap.size w3 w11) := HB310.out.trans (hb11.mono (by omega))
  have HMk : Hid (Mkd w11 v5 (framesL t).length) := hmk
  clear hb11 HO10 HB310 hB10 hmk
  go_wp2_with fail
  refine (heldO_any HLn.out HMk.out).mono ?_
  rintro e w12 ⟨rfl, hb12⟩
  have hB12 := hB11.trans (hb12.mono (by have := hB11.size; simpa using this))
  have HB312 : Hid (Below w3.heap.size w3 w12) := HB311.out.trans (hb12.mono HB311.out.size)
  rw [← HMm.out]
  have hB12' := one_below hB12
  clear hb12 HMk HB311 hB11
  obtain ⟨x0, x1⟩ := box2 hB12
  go_wp2_with fail
  refine (toTree_any t _ _ _ HS.out (HG.out.below hB12') (HF.out.below hB12')).mono ?_
  rintro e w13 ⟨vg13, vf13, rfl, hg13, hf13, hb13⟩
  have HG13 : Hid (Globs w13 vg13 t.globals) := hg13.globs (by have := HS.out.1; omega)
  have HF13 : Hid (Funcs w13 vf13 t.funcs) := hf13.funcs (by have := HS.out.2.1; omega) HS.out.2.2
  have hB13 := hB12'.trans (hb13.mono hB12'.size)
  have HB313 : Hid (Below w3.heap.size w3 w13) := HB312.out.trans (hb13.mono HB312.out.size)
  clear x0 x1 hg13 hf13 hb13 HB312 hB12 hB12'
  go_wp2_with fail
  refine (framesI_any t _ _ _ (HT.out.below hsz hB13) HS.out HW.out HG13.out HF13.out).mono ?_
  rintro e w14 ⟨v14, rfl, hown14, hb14⟩
  have HO14 : Hid (Ints w14 v14 (framesL t)) := own_ints (hown14)
  have hB14 := hB13.trans (hb14.mono hB13.size)
  have HB314 : Hid (Below w3.heap.size w3 w14) := HB313.out.trans (hb14.mono HB313.out.size)
  clear hown14 hb14 HB313 hB13 HG13 HF13
  go_wp2_with fail
  refine (eqI_any _ _ (framesL t) w14 HLn.out HO14.out (HVW.out.below HB314.out)).mono ?_
  rintro e w15 ⟨rfl, hb15⟩
  have hB15 := hB14.trans (hb15.mono hB14.size)
  clear hb15
  go_wp2_with fail
  go_ret
  exact ⟨rfl, hB15⟩

end Go.Proofs.YtlbdmahkmangbaaGreatDoor

namespace Go.Proofs.YtlbdmahkmangbaaGreatDoor
open Go.RowKit Go.Deep Go.ChangeShapes Go.WideShapes
set_option linter.unusedVariables false
set_option linter.unusedSimpArgs false

section
variable {H : Type} {enc : TypeId × Value → H} {W : World} {base : Nat} {spare : Nat → Bool} {held : Bool}

theorem fields1 {t : TypeId} {fs : Array Field} {fuel : Nat} {cs : List Value} {x : DataW H × List MemPlace} (ht : Tryz.prog.underlying t = some (.struct fs)) (hone : oneCellFields Tryz.prog fs = true) (hC : Tryz.prog.cellsOf t = fs.size) (h : DataW.trod enc Tryz.prog W base spare held fuel t cs = some x) :
    ∃ n, cs.length = fs.size ∧ ∀ i f, fs[i]? = some f → ∃ y, DataW.trod enc Tryz.prog W base spare held n f.type [cs.getD i .nilFunc] = some y := by
  obtain ⟨xs, n, _, _, hl, hx, hf⟩ := DataW.trod_struct ht h
  refine ⟨n, hl.trans hC, fun i f hi => ?_⟩
  have hlt : i < fs.size := (Array.getElem?_eq_some_iff.1 hi).1
  obtain ⟨o, c⟩ := hone_of hone i f hi
  have := hf i f hi
  rw [o, c, take1_drop cs i .nilFunc (by omega)] at this
  rw [this]
  exact ⟨xs[i]'(by omega), by simp⟩

/-- The cells of one element of a slice. -/
theorem elem_cells {b off m i k : Nat} {cs : List Value} (h : W.cells? base ((⟨b, off, none⟩ : Addr).add (i * m)) m = some cs) (hk : k < m) : W.cell? ⟨b, off + i * m + k, none⟩ = cs[k]? := by
  obtain ⟨_, _, hc⟩ := World.cells?_some h
  have := hc k hk
  rw [add_add] at this
  rw [← this]
  congr 1
  simp only [Addr.add]
  split
  · simp only [Addr.mk.injEq, and_true, true_and]; omega
  · simp only [Addr.mk.injEq, and_true, true_and]; omega
theorem spot_none {a : Addr} {m : Nat} {cs : List Value} (h : W.cells? base (a.add (0 * m)) m = some cs) (hm : 0 < m) : ∃ b off, a = ⟨b, off, none⟩ := by
  obtain ⟨b, off, spot⟩ := a
  obtain ⟨_, hl, hc⟩ := World.cells?_some h
  have h0 := hc 0 hm
  rw [List.getElem?_eq_getElem (by omega)] at h0
  have hs : spot = none := by simpa [Addr.add] using World.cell?_spot h0
  exact ⟨b, off, by rw [hs]⟩
/-- From each element's reading to a list. -/
theorem slice_list {α : Type} (i0 : α) {t e : TypeId} {m fuel : Nat} {v : Value} {x : DataW H × List MemPlace} (ht : Tryz.prog.underlying t = some (.slice e)) (hm : Tryz.prog.cellsOf e = m) (hpos : 0 < m) (P : α → List Value → Prop)
    (hel : ∀ n cs y, DataW.trod enc Tryz.prog W base spare held n e cs = some y → ∃ z, P z cs) (h : DataW.trod enc Tryz.prog W base spare held fuel t [v] = some x) :
    ∃ (a : Option Addr) (ns : List α) (cap : Nat), v = .slice a ns.length cap ∧ ns.length ≤ cap ∧ cap ≤ 9223372036854775807 ∧ (∀ z ∈ ns, ∃ cs, P z cs) ∧
      (0 < ns.length → ∃ b off, a = some ⟨b, off, none⟩ ∧ ∀ j (hj : j < ns.length), ∃ cs, P ns[j] cs ∧ ∀ k, k < m → W.cell? ⟨b, off + j * m + k, none⟩ = cs[k]?) := by
  haveI : Inhabited α := ⟨i0⟩
  rcases open_slice ht h with ⟨hc, _⟩ | ⟨a, len, cap, mm, n, D, Pl, hcs, _, hl, hcap, hmm, _, hx⟩
  · simp only [List.cons.injEq, and_true] at hc
    subst hc
    exact ⟨none, [], 0, rfl, Nat.le_refl _, by omega, by simp, fun h => absurd h (Nat.lt_irrefl _)⟩
  · simp only [List.cons.injEq, and_true] at hcs
    subst hcs
    unfold maxLen at hcap
    rw [hm] at hx
    have hle : len ≤ mm := by rw [hmm]; split <;> omega
    obtain ⟨f, hf⟩ := choose_lt (α := α) (n := len) (p := fun i z => ∃ cs, P z cs ∧ W.cells? base (a.add (i * m)) m = some cs) (fun i hi => by
      obtain ⟨cs, h1, h2⟩ := hx i (by omega)
      obtain ⟨z, hz⟩ := hel _ _ _ h2
      exact ⟨z, cs, hz, h1⟩)
    refine ⟨some a, (List.range len).map f, cap, by simp, by simpa using hl, by omega, fun z hz => ?_, fun h0 => ?_⟩
    · obtain ⟨i, hi, rfl⟩ := List.mem_map.1 hz
      obtain ⟨cs, h1, _⟩ := hf i (List.mem_range.1 hi)
      exact ⟨cs, h1⟩
    · simp only [List.length_map, List.length_range] at h0
      obtain ⟨cs0, _, hc0⟩ := hf 0 h0
      obtain ⟨b, off, rfl⟩ := spot_none hc0 hpos
      refine ⟨b, off, rfl, fun j hj => ?_⟩
      simp only [List.length_map, List.length_range] at hj
      obtain ⟨cs, h1, h2⟩ := hf j hj
      refine ⟨cs, by simpa using h1, fun k hk => elem_cells h2 hk⟩

def cellsN (n : Nd) (cs : List Value) : Prop := cs = [.int .i64 n.kind, .int .i64 n.val, .string n.name] ∧ n.name.size ≤ 9223372036854775807
theorem list3 {cs : List Value} (h : cs.length = 3) : cs = [cs.getD 0 .nilFunc, cs.getD 1 .nilFunc, cs.getD 2 .nilFunc] := by
  match cs, h with
  | [a, b, c], _ => rfl
theorem list2 {cs : List Value} (h : cs.length = 2) : cs = [cs.getD 0 .nilFunc, cs.getD 1 .nilFunc] := by
  match cs, h with
  | [a, b], _ => rfl
theorem list6 {cs : List Value} (h : cs.length = 6) : cs = [cs.getD 0 .nilFunc, cs.getD 1 .nilFunc, cs.getD 2 .nilFunc, cs.getD 3 .nilFunc, cs.getD 4 .nilFunc, cs.getD 5 .nilFunc] := by
  match cs, h with
  | [a, b, c, d, e, f], _ => rfl
theorem rd_int {fuel : Nat} {c : Value} {y : DataW H × List MemPlace} (h : DataW.trod enc Tryz.prog W base spare held fuel 2 [c] = some y) : ∃ z : Int, c = .int .i64 z := by
  obtain ⟨z, hz, _, _⟩ := DataW.trod_int Tryz.underlying2 h
  exact ⟨z, by simpa using hz⟩
theorem rd_str {fuel : Nat} {c : Value} {y : DataW H × List MemPlace} (h : DataW.trod enc Tryz.prog W base spare held fuel 9 [c] = some y) : ∃ s : ByteArray, c = .string s ∧ s.size ≤ 9223372036854775807 := by
  obtain ⟨s, hs, _, hm⟩ := DataW.trod_string Tryz.underlying9 h
  unfold maxLen at hm
  exact ⟨s, by simpa using hs, by omega⟩
theorem rd_node {fuel : Nat} {cs : List Value} {y : DataW H × List MemPlace} (h : DataW.trod enc Tryz.prog W base spare held fuel 187 cs = some y) : ∃ n, cellsN n cs := by
  obtain ⟨n, hl, hf⟩ := fields1 Tryz.underlying187 (by kernel_rfl) (by kernel_rfl) h
  obtain ⟨_, h0⟩ := hf 0 _ rfl
  obtain ⟨_, h1⟩ := hf 1 _ rfl
  obtain ⟨_, h2⟩ := hf 2 _ rfl
  obtain ⟨k, e0⟩ := rd_int h0
  obtain ⟨v, e1⟩ := rd_int h1
  obtain ⟨s, e2, hs⟩ := rd_str h2
  exact ⟨⟨k, v, s⟩, by rw [list3 hl, e0, e1, e2], hs⟩
theorem rd_nodes {fuel : Nat} {v : Value} {y : DataW H × List MemPlace} (h : DataW.trod enc Tryz.prog W base spare held fuel 126 [v] = some y) : ∃ ns, Nodes W v ns ∧ wfNs ns := by
  obtain ⟨a, ns, cap, rfl, hl, hc, hall, hx⟩ := slice_list (⟨0, 0, ⟨#[]⟩⟩ : Nd) (m := 3) Tryz.underlying126 (by kernel_rfl) (by omega) cellsN (fun n cs y h => rd_node h) h
  refine ⟨ns, ⟨a, cap, rfl, hl, hc, fun h0 => ?_⟩, by omega, fun n hn => ?_⟩
  · obtain ⟨b, off, rfl, hj⟩ := hx h0
    refine ⟨b, off, rfl, fun j hlt => ?_⟩
    obtain ⟨cs, ⟨rfl, _⟩, hk⟩ := hj j hlt
    exact ⟨hk 0 (by omega), hk 1 (by omega), hk 2 (by omega)⟩
  · obtain ⟨cs, _, hs⟩ := hall n hn
    exact hs
def cellsS (W : World) (s : St) (cs : List Value) : Prop := ∃ ve vf, cs = [.int .i64 s.kind, .string s.name, ve, vf, .int .i64 s.thn, .int .i64 s.els] ∧ Nodes W ve s.e ∧ Nodes W vf s.f ∧ wfSt s
theorem rd_stmt {fuel : Nat} {cs : List Value} {y : DataW H × List MemPlace} (h : DataW.trod enc Tryz.prog W base spare held fuel 128 cs = some y) : ∃ s, cellsS W s cs := by
  obtain ⟨n, hl, hf⟩ := fields1 Tryz.underlying128 (by kernel_rfl) (by kernel_rfl) h
  obtain ⟨_, h0⟩ := hf 0 _ rfl
  obtain ⟨_, h1⟩ := hf 1 _ rfl
  obtain ⟨_, h2⟩ := hf 2 _ rfl
  obtain ⟨_, h3⟩ := hf 3 _ rfl
  obtain ⟨_, h4⟩ := hf 4 _ rfl
  obtain ⟨_, h5⟩ := hf 5 _ rfl
  obtain ⟨k, e0⟩ := rd_int h0
  obtain ⟨s, e1, hs⟩ := rd_str h1
  obtain ⟨es, n2, w2⟩ := rd_nodes h2
  obtain ⟨fs, n3, w3⟩ := rd_nodes h3
  obtain ⟨t, e4⟩ := rd_int h4
  obtain ⟨l, e5⟩ := rd_int h5
  exact ⟨⟨k, s, es, fs, t, l⟩, _, _, by rw [list6 hl, e0, e1, e4, e5]; rfl, n2, n3, hs, w2, w3⟩
theorem rd_stmts {fuel : Nat} {v : Value} {y : DataW H × List MemPlace} (h : DataW.trod enc Tryz.prog W base spare held fuel 64 [v] = some y) : ∃ ns, Stmts W v ns ∧ wfSs ns := by
  obtain ⟨a, ns, cap, rfl, hl, hc, hall, hx⟩ := slice_list (⟨0, ⟨#[]⟩, [], [], 0, 0⟩ : St) (m := 6) Tryz.underlying64 (by kernel_rfl) (by omega) (cellsS W) (fun n cs y h => rd_stmt h) h
  refine ⟨ns, ⟨a, cap, rfl, hl, hc, fun h0 => ?_⟩, by omega, fun n hn => ?_⟩
  · obtain ⟨b, off, rfl, hj⟩ := hx h0
    refine ⟨b, off, rfl, fun j hlt => ?_⟩
    obtain ⟨cs, ⟨ve, vf, rfl, he, hf, _⟩, hk⟩ := hj j hlt
    exact ⟨ve, vf, ⟨hk 0 (by omega), hk 1 (by omega), hk 2 (by omega), hk 3 (by omega), hk 4 (by omega), hk 5 (by omega)⟩, he, hf⟩
  · obtain ⟨cs, _, _, _, _, _, hs⟩ := hall n hn
    exact hs
def cellsP (s : ByteArray) (cs : List Value) : Prop := cs = [.string s] ∧ s.size ≤ 9223372036854775807
theorem rd_strs {fuel : Nat} {v : Value} {y : DataW H × List MemPlace} (h : DataW.trod enc Tryz.prog W base spare held fuel 45 [v] = some y) : ∃ ns, Strs W v ns ∧ wfPs ns := by
  obtain ⟨a, ns, cap, rfl, hl, hc, hall, hx⟩ := slice_list (⟨#[]⟩ : ByteArray) (m := 1) Tryz.underlying45 (by kernel_rfl) (by omega) cellsP (fun n cs y h => by
    obtain ⟨s, hs, _, hm⟩ := DataW.trod_string Tryz.underlying9 h
    unfold maxLen at hm
    exact ⟨s, hs, by omega⟩) h
  refine ⟨ns, ⟨a, cap, rfl, hl, hc, fun h0 => ?_⟩, by omega, fun n hn => ?_⟩
  · obtain ⟨b, off, rfl, hj⟩ := hx h0
    refine ⟨b, off, rfl, fun j hlt => ?_⟩
    obtain ⟨cs, ⟨rfl, _⟩, hk⟩ := hj j hlt
    have := hk 0 (by omega)
    rw [show off + j * 1 + 0 = off + j by omega] at this
    exact this
  · obtain ⟨cs, _, hs⟩ := hall n hn
    exact hs
def cellsG (g : Gl) (cs : List Value) : Prop := cs = [.string g.name, .int .i64 g.size] ∧ g.name.size ≤ 9223372036854775807
theorem rd_glob {fuel : Nat} {cs : List Value} {y : DataW H × List MemPlace} (h : DataW.trod enc Tryz.prog W base spare held fuel 62 cs = some y) : ∃ n, cellsG n cs := by
  obtain ⟨n, hl, hf⟩ := fields1 Tryz.underlying62 (by kernel_rfl) (by kernel_rfl) h
  obtain ⟨_, h0⟩ := hf 0 _ rfl
  obtain ⟨_, h1⟩ := hf 1 _ rfl
  obtain ⟨s, e0, hs⟩ := rd_str h0
  obtain ⟨k, e1⟩ := rd_int h1
  exact ⟨⟨s, k⟩, by rw [list2 hl, e0, e1], hs⟩
theorem rd_globs {fuel : Nat} {v : Value} {y : DataW H × List MemPlace} (h : DataW.trod enc Tryz.prog W base spare held fuel 22 [v] = some y) : ∃ ns, Globs W v ns ∧ wfGs ns := by
  obtain ⟨a, ns, cap, rfl, hl, hc, hall, hx⟩ := slice_list (⟨⟨#[]⟩, 0⟩ : Gl) (m := 2) Tryz.underlying22 (by kernel_rfl) (by omega) cellsG (fun n cs y h => rd_glob h) h
  refine ⟨ns, ⟨a, cap, rfl, hl, hc, fun h0 => ?_⟩, by omega, fun n hn => ?_⟩
  · obtain ⟨b, off, rfl, hj⟩ := hx h0
    refine ⟨b, off, rfl, fun j hlt => ?_⟩
    obtain ⟨cs, ⟨rfl, _⟩, hk⟩ := hj j hlt
    exact ⟨hk 0 (by omega), hk 1 (by omega)⟩
  · obtain ⟨cs, _, hs⟩ := hall n hn
    exact hs
def cellsF (W : World) (s : Fu) (cs : List Value) : Prop := ∃ vp vb, cs = [.string s.name, vp, vb] ∧ Strs W vp s.params ∧ Stmts W vb s.body ∧ wfFu s
theorem rd_func {fuel : Nat} {cs : List Value} {y : DataW H × List MemPlace} (h : DataW.trod enc Tryz.prog W base spare held fuel 66 cs = some y) : ∃ s, cellsF W s cs := by
  obtain ⟨n, hl, hf⟩ := fields1 Tryz.underlying66 (by kernel_rfl) (by kernel_rfl) h
  obtain ⟨_, h0⟩ := hf 0 _ rfl
  obtain ⟨_, h1⟩ := hf 1 _ rfl
  obtain ⟨_, h2⟩ := hf 2 _ rfl
  obtain ⟨s, e0, hs⟩ := rd_str h0
  obtain ⟨ps, n1, w1⟩ := rd_strs h1
  obtain ⟨ss, n2, w2⟩ := rd_stmts h2
  exact ⟨⟨s, ps, ss⟩, _, _, by rw [list3 hl, e0]; rfl, n1, n2, hs, w1, w2⟩
theorem rd_funcs {fuel : Nat} {v : Value} {y : DataW H × List MemPlace} (h : DataW.trod enc Tryz.prog W base spare held fuel 23 [v] = some y) : ∃ ns, Funcs W v ns ∧ wfFs ns := by
  obtain ⟨a, ns, cap, rfl, hl, hc, hall, hx⟩ := slice_list (⟨⟨#[]⟩, [], []⟩ : Fu) (m := 3) Tryz.underlying23 (by kernel_rfl) (by omega) (cellsF W) (fun n cs y h => rd_func h) h
  refine ⟨ns, ⟨a, cap, rfl, hl, hc, fun h0 => ?_⟩, by omega, fun n hn => ?_⟩
  · obtain ⟨b, off, rfl, hj⟩ := hx h0
    refine ⟨b, off, rfl, fun j hlt => ?_⟩
    obtain ⟨cs, ⟨vp, vb, rfl, he, hf, _⟩, hk⟩ := hj j hlt
    exact ⟨vp, vb, ⟨hk 0 (by omega), hk 1 (by omega), hk 2 (by omega)⟩, he, hf⟩
  · obtain ⟨cs, _, _, _, _, _, hs⟩ := hall n hn
    exact hs
end

end Go.Proofs.YtlbdmahkmangbaaGreatDoor
