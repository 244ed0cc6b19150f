import Derived.Test.YtjnnepkoeloekaaGreatDoorPZD
import Derived.Test.YtjnnepkoeloekaaGreatDoorPVN
import Derived.Deep.RegionHeld3
namespace Go.Proofs.YtjnnepkoeloekaaGreatDoor
open Go.RowKit
set_option linter.unusedVariables false
set_option linter.unusedSimpArgs false

theorem own_byts {w : World} {N : Nat} {v : Value} {l : List UInt8} (h : w.ownsRow N 5 1 v l.length (Lib.strCells (tx l))) : Byts w v l := by
  have h0 := h
  obtain ⟨hl, h⟩ := h
  rcases h with ⟨rfl, hz⟩ | ⟨g, cap, cur, rfl, hg, hh, hc1, hc2, hc3, hc4⟩
  · exact ⟨none, 0, by rw [hz], fun h => absurd h (by omega)⟩
  · refine ⟨_, cap, rfl, fun _ => ⟨g, rfl, fun j hj => ?_⟩⟩
    have := h0.cells (g := g) rfl j (.int .u8 (l[j].toNat : Int)) (by simp [Lib.strCells, tx, hj])
    rw [addr0] at this
    exact this
theorem ownb_keep {w w' : World} {N : Nat} {v : Value} {n : Nat} {xs : List Value} (h : w.ownsRow N 5 1 v n xs) (hb : ∀ g, N ≤ g → g < w.heap.size → w'.heap[g]? = w.heap[g]?) : w'.ownsRow N 5 1 v n xs := by
  obtain ⟨g1, g2⟩ := h
  refine ⟨g1, ?_⟩
  rcases g2 with g2 | ⟨g, cap, cur, rfl, g3, g4, g5⟩
  · exact .inl g2
  · refine .inr ⟨g, cap, cur, rfl, g3, ?_, g5⟩
    rw [hb g g3 (Array.getElem?_eq_some_iff.1 g4).1]
    exact g4
theorem ownb_below {w w' : World} {N : Nat} {v : Value} {n : Nat} {xs : List Value} (h : w.ownsRow N 5 1 v n xs) (hb : Below w.heap.size w w') : w'.ownsRow N 5 1 v n xs := ownb_keep h fun g _ hg => hb.block g hg
/-- A row of bytes is marked from 1 on. -/
def Mkd (w : World) (v : Value) (n : Nat) : Prop := (v = .slice none 0 0 ∧ n = 0) ∨ ∃ g cap, v = .slice (some ⟨g, 0, none⟩) n cap ∧ ∀ j, j < n → w.cell? ⟨g, j, none⟩ = some (mk8 1 j)

set_option maxHeartbeats 1000000 in
theorem markNil (w : World) : Calls Tryz.prog 11 #[.slice none 0 0, .int .i64 1] w fun e w' => e = .returned (.int .i64 1) ∧ w' = w := by
  go_enter Tryz.func11, Tryz.ntmps11
  go_wp2_with fail
  refine wp_loop_rounds 1 ?_
  rw [rounds_succ]
  go_wp2_with fail
  go_ret
  exact ⟨rfl, rfl⟩
set_option maxHeartbeats 1000000 in
theorem heldNil (w : World) : Calls Tryz.prog 12 #[.slice none 0 0, .int .i64 1] w fun e w' => e = .returned (.int .i64 1) ∧ w' = w := by
  go_enter Tryz.func12, Tryz.ntmps12
  go_wp2_with fail
  refine wp_loop_rounds 1 ?_
  rw [rounds_succ]
  go_wp2_with fail
  go_ret
  exact ⟨rfl, rfl⟩
theorem markO_any {w : World} {N : Nat} {v : Value} {n : Nat} {xs : List Value} (hn : n ≤ 100000000) (hown : w.ownsRow N 5 1 v n xs) :
    Calls Tryz.prog 11 #[v, .int .i64 1] w fun e w' => e = .returned (.int .i64 ((1 + n : Nat) : Int)) ∧ Below N w w' ∧ Mkd w' v n := by
  obtain ⟨g1, g2⟩ := hown
  rcases g2 with ⟨rfl, rfl⟩ | ⟨g, cap, cur, rfl, hg, hh, hc1, hc2, hc3, hc4⟩
  · refine (markNil w).mono ?_
    rintro e w' ⟨rfl, rfl⟩
    exact ⟨rfl, Below.refl _ _, .inl ⟨rfl, rfl⟩⟩
  · have h : ∀ j, j < n → (∃ y, w.cell? ⟨g, j, none⟩ = some y) ∧ w.frozen? ⟨g, j, none⟩ = false := fun j hj => by
      have hi : j < cur.size := by omega
      have := rowm_cell hh hi
      exact ⟨⟨_, this.1⟩, this.2⟩
    refine (markB_any g n cap 1 w hn (by omega) h).mono ?_
    rintro e w' ⟨rfl, hT, hM⟩
    exact ⟨rfl, hT.below hg, .inr ⟨g, cap, rfl, hM⟩⟩
theorem heldO_any {w : World} {v : Value} {n : Nat} (hn : n ≤ 100000000) (hM : Mkd w v n) :
    Calls Tryz.prog 12 #[v, .int .i64 1] w fun e w' => e = .returned (.int .i64 ((1 + n : Nat) : Int)) ∧ Below w.heap.size w w' := by
  rcases hM with ⟨rfl, rfl⟩ | ⟨g, cap, rfl, hM⟩
  · refine (heldNil w).mono ?_
    rintro e w' ⟨rfl, rfl⟩
    exact ⟨rfl, Below.refl _ _⟩
  · exact heldB_any g n cap 1 w hn (by omega) hM
theorem prT_len [Inhabited Pick] (t : Tr) : (prT t).length ≤ 100000000 := by
  unfold prT
  split
  · rename_i h
    obtain ⟨h1, h2, h3, h4⟩ := treeB_parts h
    have a := flat_len globT 50 t.globals (fun g hg => globT_len (h3 g hg)) t.globals.length
    have b := flat_len funcT 120000 t.funcs (fun f hf => funcT_len (h4 f hf)) t.funcs.length
    rw [List.take_length] at a b
    simp only [treeT, List.length_append]
    omega
  · simp

set_option maxRecDepth 100000 in
set_option maxHeartbeats 4000000 in
theorem law_print (t : Tr) (vg vf : Value) (w : World) (hT : Tab w) (hBT : BTab w) (hPT : PTab w) (hw : wfT t) (hg : Globs w vg t.globals) (hf : Funcs w vf t.funcs) :
    Calls Tryz.prog 3 #[.agg #[vg, vf]] w fun e w' => e = .returned (.bool true) ∧ Below w.heap.size w w' := by
  haveI : Inhabited Pick := ⟨⟨fun _ h => Classical.choice h⟩⟩
  have HT : Hid (Tab w) := hT
  have HBT : Hid (BTab w) := hBT
  have HPT : Hid (PTab w) := hPT
  have HW : Hid (wfT t) := hw
  have HG : Hid (Globs w vg t.globals) := hg
  have HF : Hid (Funcs w vf t.funcs) := hf
  have hsz := hT.size
  obtain ⟨ag, cg, rfl, -, -, -⟩ := hg
  obtain ⟨af, cf, rfl, -, -, -⟩ := hf
  clear hT hBT hPT hw
  have hA : Below w.heap.size w (w.alloc (.cells #[.slice ag t.globals.length cg, .slice af t.funcs.length cf] 25)) := (Below.refl _ _).alloc (Nat.le_refl _) _
  go_enter Tryz.func3, Tryz.ntmps3
  go_wp2_with fail
  refine (szTree_any t _ _ _ _ ⟨by omega, by omega⟩ HW.out (HG.out.below hA) (HF.out.below hA)).mono ?_
  rintro e w1 ⟨rfl, hb1⟩
  simp only [World.size_alloc] at hb1
  have hB1 := one_below hb1
  by_cases hs : (1048576 : Int) < (szT t : Nat)
  · rw [szR_gt hs]
    clear hs
    go_wp2_with fail
    go_ret
    exact ⟨rfl, hB1⟩
  have HS : Hid (smallT t) := smallT_of (by omega)
  have HCn : Hid (cntT t ≤ 4194304) := by have := cntT_le t; show _ ≤ _; omega
  rw [szR_le (show ((szT t : Nat) : Int) ≤ 1048576 by omega)]
  have hq : 0 ≤ (1048576 : Int) - (szT t : Nat) := by omega
  generalize (1048576 : Int) - (szT t : Nat) = q at hq ⊢
  clear hs
  obtain ⟨x0, x1⟩ := box2 hb1
  go_wp2_with fail
  refine (toTree_any t _ _ _ HS.out (HG.out.below hB1) (HF.out.below hB1)).mono ?_
  rintro e w2 ⟨vg2, vf2, rfl, hg2, hf2, hb2⟩
  have HG2 : Hid (Globs w2 vg2 t.globals) := hg2.globs (by have := HS.out.1; omega)
  have HF2 : Hid (Funcs w2 vf2 t.funcs) := hf2.funcs (by have := HS.out.2.1; omega) HS.out.2.2
  have hB2 := hb1.trans (hb2.mono (by have := hb1.size; simp at this; omega))
  clear x0 x1 hg2 hf2
  go_wp2_with fail
  refine (printS_any t _ _ _ HS.out HG2.out HF2.out).mono ?_
  rintro e w3 ⟨vw, rfl, hvw, hb3⟩
  have HVW : Hid (Byts w3 vw (prT t)) := hvw
  have HLn : Hid ((prT t).length ≤ 100000000) := prT_len t
  have hB3 := hB2.trans (hb3.mono (by have := hB2.size; simp at this; omega))
  have hB3' := one_below hB3
  have hsz3 : w.heap.size + 1 ≤ w3.heap.size := by have := hB3.size; simpa using this
  clear HG2 HF2 hb3 hB2 hb2 hb1 hB1 hvw
  obtain ⟨x0, x1⟩ := box2 hB3
  go_wp2_with fail
  refine (toTree_any t _ _ _ HS.out (HG.out.below hB3') (HF.out.below hB3')).mono ?_
  rintro e w4 ⟨vg4, vf4, rfl, hg4, hf4, hb4⟩
  have HG4 : Hid (Globs w4 vg4 t.globals) := hg4.globs (by have := HS.out.1; omega)
  have HF4 : Hid (Funcs w4 vf4 t.funcs) := hf4.funcs (by have := HS.out.2.1; omega) HS.out.2.2
  have HPG : Hid (PlainM w3.heap.size w4.heap.size 43 2 w4 vg4 t.globals.length) := hg4.plain
  have HPF : Hid (FuncsM w3.heap.size w4.heap.size w4 vf4 t.funcs) := hf4.marks
  obtain ⟨g4, y4, rfl, -, -⟩ := hg4
  obtain ⟨f4, z4, V4, rfl, -, -, -⟩ := hf4
  have hB4 := hB3.trans (hb4.mono (by have := hB3.size; simp at this; omega))
  have hB4' := one_below hB4
  have HB34 : Hid (Below w3.heap.size w3 w4) := hb4
  have hsz4 := hb4.size
  clear x0 x1 hb4 hB3 hB3'
  go_wp2_with fail
  have hX : Below w4.heap.size w4 (w4.alloc (.cells #[.slice (some ⟨g4, 0, none⟩) t.globals.length t.globals.length, .slice (some ⟨f4, 0, none⟩) t.funcs.length t.funcs.length] 32)) := (Below.refl _ _).alloc (Nat.le_refl _) _
  have hB4x := hB4'.trans (hX.mono hB4'.size)
  refine (print_any t _ _ _ (HT.out.below hsz hB4x) (HBT.out.below hB4x) (HPT.out.below hB4x) HS.out (HG4.out.below hX) (HF4.out.below hX)).mono ?_
  rintro e w5 ⟨v5, rfl, hown5, hb5⟩
  simp only [World.size_alloc] at hb5 hown5
  have hX5 := one_below hb5
  have hB5 := hB4.trans (hX5.mono (by have := hB4.size; simp at this; omega))
  have hB5' := one_below hB5
  have HO5 : Hid (w5.ownsRow (w4.heap.size + 1) 5 1 v5 (prT t).length (Lib.strCells (tx (prT t)))) := hown5
  have HX4 : Hid (Below (w4.heap.size + 1) (w4.alloc (.cells #[.slice (some ⟨g4, 0, none⟩) t.globals.length t.globals.length, .slice (some ⟨f4, 0, none⟩) t.funcs.length t.funcs.length] 32)) w5) := hb5
  have hsz5 : w4.heap.size + 1 ≤ w5.heap.size := by have := hb5.size; simpa using this
  have HB35 : Hid (Below w3.heap.size w3 w5) := HB34.out.trans (hX5.mono hsz4)
  clear hown5
  go_wp2_with fail
  refine (eqB_any _ _ (prT t) w5 HLn.out (own_byts HO5.out) (HVW.out.below HB35.out)).mono ?_
  rintro e w6 ⟨rfl, hb6⟩
  have hX6 := hX5.trans (hb6.mono hX5.size)
  have hB6 := hB5.trans (hb6.mono (by have := hB5.size; simpa using this))
  have hB6' := one_below hB6
  have hb6x := hb5.trans (hb6.mono (by have := hb5.size; simpa using this))
  have HO6 : Hid (w6.ownsRow (w4.heap.size + 1) 5 1 v5 (prT t).length (Lib.strCells (tx (prT t)))) := ownb_below HO5.out hb6
  have HB36 : Hid (Below w3.heap.size w3 w6) := HB35.out.trans (hb6.mono HB35.out.size)
  obtain ⟨x0, x1⟩ := box2 hB6
  obtain ⟨z0, z1⟩ := box2 hb6x
  have hl0 : w.heap.size < w6.heap.size := by have := hB6.size; simp at this; omega
  have hl4 : w4.heap.size < w6.heap.size := by have := hb6x.size; simp at this; omega
  have HG5 : Hid (Globs w6 (.slice (some ⟨g4, 0, none⟩) t.globals.length t.globals.length) t.globals) := HG4.out.below hX6
  have HF5 : Hid (Funcs w6 (.slice (some ⟨f4, 0, none⟩) t.funcs.length t.funcs.length) t.funcs) := HF4.out.below hX6
  have HGA : Hid (Globs w6 (.slice ag t.globals.length cg) t.globals) := HG.out.below hB6'
  have HFA : Hid (Funcs w6 (.slice af t.funcs.length cf) t.funcs) := HF.out.below hB6'
  have hdr : Below w6.heap.size w6 w6.drew := (Below.refl _ _).drew
  clear HG4 HF4 hX hX5 hb5 hB4 hB4' hA hB4x hB5 hB5' hb6 HO5 HB35 HX4 HB34
  go_wp2_with fail
  go_region_held3 (fun W => W.cell? ⟨w.heap.size, 0, none⟩ = some (.slice ag t.globals.length cg) ∧ W.cell? ⟨w.heap.size, 1, none⟩ = some (.slice af t.funcs.length cf) ∧ W.cell? ⟨w4.heap.size, 0, none⟩ = some (.slice (some ⟨g4, 0, none⟩) t.globals.length t.globals.length) ∧ W.cell? ⟨w4.heap.size, 1, none⟩ = some (.slice (some ⟨f4, 0, none⟩) t.funcs.length t.funcs.length)) (go_simp)
    (first
    | (go_at_call 6; refine (toTree_any t _ _ _ HS.out (HGA.out.below hdr) (HFA.out.below hdr)).mono ?_; rintro e w7 ⟨vg7, vf7, rfl, hg7, hf7, hb7⟩; have hcc : ∀ b o, b < w6.heap.size → w7.cell? ⟨b, o, none⟩ = w6.cell? ⟨b, o, none⟩ := (bcell hb7).1; have HG7 : Hid (Globs w7 vg7 t.globals) := hg7.globs (by have := HS.out.1; omega); have HF7 : Hid (Funcs w7 vf7 t.funcs) := hf7.funcs (by have := HS.out.2.1; omega) HS.out.2.2; clear hg7 hf7; have hl07 : w.heap.size < w7.heap.size := Nat.lt_of_lt_of_le hl0 hb7.size; have hl47 : w4.heap.size < w7.heap.size := Nat.lt_of_lt_of_le hl4 hb7.size)
    | (go_at_call 9; refine (eqTree_any t _ _ _ _ _ HS.out (HG5.out.below (hdr.trans hb7)) (HF5.out.below (hdr.trans hb7)) HG7.out HF7.out).mono ?_; rintro e w8 ⟨rfl, hb8⟩; have hcc : ∀ b o, b < w7.heap.size → w8.cell? ⟨b, o, none⟩ = w7.cell? ⟨b, o, none⟩ := (bcell hb8).1))
  have hb68 : Below w6.heap.size w6 w8 := (hdr.trans hb7).trans (hb8.mono hb7.size)
  have hX8 := hX6.trans (hb68.mono hX6.size)
  have hB8 := hB6.trans (hb68.mono (by have := hB6.size; simpa using this))
  have hb8x := hb6x.trans (hb68.mono (by have := hb6x.size; simpa using this))
  have HO8 : Hid (w8.ownsRow (w4.heap.size + 1) 5 1 v5 (prT t).length (Lib.strCells (tx (prT t)))) := ownb_below HO6.out hb68
  have HB38 : Hid (Below w3.heap.size w3 w8) := HB36.out.trans (hb68.mono HB36.out.size)
  have HSh8 : Hid (Sh w3.heap.size w4.heap.size w4 w8) := Sh.of_below hX8
  clear x0 x1 z0 z1 hB6 hB6' hb6x hX6 HO6 HB36 HG5 HF5 HGA HFA hdr hb68 HG7 HF7 hl0 hl4 hl07 hl47
  obtain ⟨x0, x1⟩ := box2 hB8
  obtain ⟨z0, z1⟩ := box2 hb8x
  go_wp2_with fail
  refine (markTree_any w3.heap.size w4.heap.size _ _ t 1 w8 hX8.size HS.out (by omega) (by have := HCn.out; omega) (HPG.out.sh HSh8.out) (HPF.out.sh HSh8.out)).mono ?_
  rintro e w9 ⟨rfl, hsh⟩
  have hB89 : Below w3.heap.size w8 w9 := hsh.below HB38.out.size
  have hB9 := hB8.trans (hB89.mono (by omega))
  have HB39 : Hid (Below w3.heap.size w3 w9) := HB38.out.trans hB89
  have HO9 : Hid (w9.ownsRow (w4.heap.size + 1) 5 1 v5 (prT t).length (Lib.strCells (tx (prT t)))) := ownb_keep HO8.out fun g hg hlt => by
    rcases hsh.block g hlt with h | ⟨_, h, _⟩
    · exact h
    · omega
  have hk0 : (0 : Int) ≤ ((1 + cntT t : Nat) : Int) := by omega
  generalize ((1 + cntT t : Nat) : Int) = kc at hk0 ⊢
  have hsz9 : w3.heap.size ≤ w9.heap.size := HB39.out.size
  clear x0 x1 z0 z1 hsh hB89 HO8 HB38 HSh8 hX8 hb8x hB8
  go_wp2_with fail
  refine (eqB_any _ _ (prT t) w9 HLn.out (own_byts HO9.out) (HVW.out.below HB39.out)).mono ?_
  rintro e w10 ⟨rfl, hb10⟩
  have hB10 := hB9.trans (hb10.mono (by have := hB9.size; simpa using this))
  have HB310 : Hid (Below w3.heap.size w3 w10) := HB39.out.trans (hb10.mono HB39.out.size)
  have HO10 : Hid (w10.ownsRow (w4.heap.size + 1) 5 1 v5 (prT t).length (Lib.strCells (tx (prT t)))) := ownb_below HO9.out hb10
  clear hb10 HO9 HB39 hB9
  go_wp2_with fail
  refine (markO_any HLn.out HO10.out).mono ?_
  rintro e w11 ⟨rfl, hb11, hmk⟩
  obtain ⟨mm, hmm⟩ : ∃ mm : Int, mm = ((1 + (prT t).length : Nat) : Int) := ⟨_, rfl⟩
  rw [← hmm]
  have HMm : Hid (mm = ((1 + (prT t).length : Nat) : Int)) := hmm
  have hm0 : (0 : Int) ≤ mm := by omega
  clear hmm
  have hB11 := hB10.trans (hb11.mono (by omega))
  have HB311 : Hid (Below w3.heap.size w3 w11) := HB310.out.trans (hb11.mono (by omega))
  have HMk : Hid (Mkd w11 v5 (prT t).length) := hmk
  clear hb11 HO10 HB310 hB10 hmk
  go_wp2_with fail
  refine (heldO_any HLn.out HMk.out).mono ?_
  rintro e w12 ⟨rfl, hb12⟩
  have hB12 := hB11.trans (hb12.mono (by have := hB11.size; simpa using this))
  have HB312 : Hid (Below w3.heap.size w3 w12) := HB311.out.trans (hb12.mono HB311.out.size)
  rw [← HMm.out]
  have hB12' := one_below hB12
  clear hb12 HMk HB311 hB11
  obtain ⟨x0, x1⟩ := box2 hB12
  go_wp2_with fail
  refine (toTree_any t _ _ _ HS.out (HG.out.below hB12') (HF.out.below hB12')).mono ?_
  rintro e w13 ⟨vg13, vf13, rfl, hg13, hf13, hb13⟩
  have HG13 : Hid (Globs w13 vg13 t.globals) := hg13.globs (by have := HS.out.1; omega)
  have HF13 : Hid (Funcs w13 vf13 t.funcs) := hf13.funcs (by have := HS.out.2.1; omega) HS.out.2.2
  have hB13 := hB12'.trans (hb13.mono hB12'.size)
  have HB313 : Hid (Below w3.heap.size w3 w13) := HB312.out.trans (hb13.mono HB312.out.size)
  clear x0 x1 hg13 hf13 hb13 HB312 hB12 hB12'
  go_wp2_with fail
  refine (print_any t _ _ _ (HT.out.below hsz hB13) (HBT.out.below hB13) (HPT.out.below hB13) HS.out HG13.out HF13.out).mono ?_
  rintro e w14 ⟨v14, rfl, hown14, hb14⟩
  have HO14 : Hid (Byts w14 v14 (prT t)) := own_byts hown14
  have hB14 := hB13.trans (hb14.mono hB13.size)
  have HB314 : Hid (Below w3.heap.size w3 w14) := HB313.out.trans (hb14.mono HB313.out.size)
  clear hown14 hb14 HB313 hB13 HG13 HF13
  go_wp2_with fail
  refine (eqB_any _ _ (prT t) w14 HLn.out HO14.out (HVW.out.below HB314.out)).mono ?_
  rintro e w15 ⟨rfl, hb15⟩
  have hB15 := hB14.trans (hb15.mono hB14.size)
  clear hb15
  go_wp2_with fail
  go_ret
  exact ⟨rfl, hB15⟩

end Go.Proofs.YtjnnepkoeloekaaGreatDoor
