import Derived.Test.YtbmcnjjhgjphmaaDoorFS
import Derived.Test.YtbmcnjjhgjphmaaDoorFQ
import Derived.Deep.RegionHeld3
namespace Go.Proofs.YtbmcnjjhgjphmaaDoor
open Go.RowKit
set_option linter.unusedVariables false
set_option linter.unusedSimpArgs false

theorem NFree.old {B : Nat} {w : World} {v : Value} {ns : List Nd} (h : NFree B w v ns) : ∃ g cap, v = .slice (some ⟨g, 0, none⟩) ns.length cap ∧ B ≤ g ∧ g < w.heap.size ∧ OldN w g (ns.length * 3) := by
  obtain ⟨g, cap, rfl, h1, h2, h3, h4, h5, h6⟩ := h
  refine ⟨g, cap, rfl, h3, h4, fun j hj => ⟨?_, h6 j hj⟩⟩
  obtain ⟨c0, c1, c2⟩ := h5 (j / 3) (by omega)
  have hm : j % 3 = 0 ∨ j % 3 = 1 ∨ j % 3 = 2 := by omega
  rcases hm with hm | hm | hm
  · exact ⟨_, by rw [show j = 0 + j / 3 * 3 by omega]; exact c0⟩
  · exact ⟨_, by rw [show j = 0 + j / 3 * 3 + 1 by omega]; exact c1⟩
  · exact ⟨_, by rw [show j = 0 + j / 3 * 3 + 2 by omega]; exact c2⟩
theorem NFree.tn {B g0 : Nat} {w w' : World} {v : Value} {ns : List Nd} (h : NFree B w v ns) (ht : Tn g0 w w') (hg : g0 < B) : NFree B w' v ns := by
  obtain ⟨g, cap, rfl, h1, h2, h3, h4, h5, h6⟩ := h
  have hb := ht.other g h4 (by omega)
  refine ⟨g, cap, rfl, h1, h2, h3, Nat.lt_of_lt_of_le h4 ht.size, fun j hj => ?_, fun j hj => ?_⟩
  · obtain ⟨c0, c1, c2⟩ := h5 j hj
    exact ⟨(World.cell?_of_block (a := ⟨g, 0 + j * 3, none⟩) hb).trans c0, (World.cell?_of_block (a := ⟨g, 0 + j * 3 + 1, none⟩) hb).trans c1, (World.cell?_of_block (a := ⟨g, 0 + j * 3 + 2, none⟩) hb).trans c2⟩
  · exact (World.frozen?_of_block (a := ⟨g, j, none⟩) hb).trans (h6 j hj)
theorem NFree.below {B : Nat} {w w' : World} {v : Value} {ns : List Nd} (h : NFree B w v ns) (hb : Below w.heap.size w w') : NFree B w' v ns := by
  obtain ⟨g, cap, rfl, h1, h2, h3, h4, h5, h6⟩ := h
  exact ⟨g, cap, rfl, h1, h2, h3, Nat.lt_of_lt_of_le h4 hb.size, h5.below hb, fun j hj => (hb.frozen (p := ⟨g, j, none⟩) h4).trans (h6 j hj)⟩
theorem NodesO.old {B : Nat} {w : World} {v : Value} {ns : List Nd} (h : NodesO B w v ns) : ∃ g, v = .slice (some ⟨g, 0, none⟩) ns.length ns.length ∧ B ≤ g ∧ g < w.heap.size ∧ OldN w g (ns.length * 3) := by
  obtain ⟨g, xs, rfl, ho, hx⟩ := h
  exact ⟨g, rfl, (World.ownsRow.lt ho g rfl).1, (World.ownsRow.lt ho g rfl).2, fun j hj => own_old ho j hj⟩

set_option maxRecDepth 100000 in
set_option maxHeartbeats 4000000 in
theorem law_fold (ns : List Nd) (v : Value) (w : World) (hT : Tab w) (hw : wfNs ns) (hN : Nodes w v ns) :
    Calls Tryd.prog 3 #[v] w fun e w' => e = .returned (.bool true) ∧ Below w.heap.size w w' := by
  have HT : Hid (Tab w) := hT
  have HW : Hid (wfNs ns) := hw
  have HN : Hid (Nodes w v ns) := hN
  have hsz := hT.size
  obtain ⟨r, hr⟩ := FoldR.exists ns
  have HR : Hid (FoldR ns r) := hr
  have HRl : Hid (r.length ≤ 2000) := hr.len
  obtain ⟨a, cap, rfl, -, -, -⟩ := hN
  clear hT hw hr
  go_enter Tryd.func3, Tryd.ntmps3
  go_wp2_with fail
  refine (szNodes_any _ ns _ _ ⟨by omega, by omega⟩ HW.out HN.out).mono ?_
  rintro e w1 ⟨rfl, hB1⟩
  by_cases hs : (1048576 : Int) < (szNs ns : Nat)
  · rw [szR_gt hs]
    clear hs
    go_wp2_with fail
    go_ret
    exact ⟨rfl, hB1⟩
  have hln : ns.length ≤ 1048576 := by have : szNs ns = ns.length + sumBy szN ns := rfl; omega
  rw [szR_le (show ((szNs ns : Nat) : Int) ≤ 1048576 by omega)]
  have hq : 0 ≤ (1048576 : Int) - (szNs ns : Nat) := by omega
  generalize (1048576 : Int) - (szNs ns : Nat) = q at hq ⊢
  clear hs
  go_wp2_with fail
  refine (toNodes_any _ ns _ hln (HN.out.below hB1)).mono ?_
  rintro e w2 ⟨v2, rfl, hn2, hb2⟩
  have HN2 : Hid (Nodes w2 v2 ns) := hn2.nodes (by omega)
  have hB2 := hB1.trans (hb2.mono hB1.size)
  obtain ⟨g2, rfl, -⟩ := hn2.old
  clear hn2 hb2 hB1
  go_wp2_with fail
  refine (foldG_any _ ns r _ hln HN2.out HR.out).mono ?_
  rintro e w3 ⟨vw, rfl, hvw, hb3⟩
  have HVW : Hid (Nodes w3 vw r) := hvw
  have hB3 := hB2.trans (hb3.mono hB2.size)
  have hs3 := hB3.size
  obtain ⟨aw, cw, rfl, -, -, -⟩ := hvw
  clear hb3 hB2 HN2
  go_wp2_with fail
  refine (toNodes_any _ ns _ hln (HN.out.below hB3)).mono ?_
  rintro e w4 ⟨v4, rfl, hn4, hb4⟩
  have HO4 : Hid (NodesO w3.heap.size w4 v4 ns) := hn4
  have hB4 := hB3.trans (hb4.mono hB3.size)
  have HB34 : Hid (Below w3.heap.size w3 w4) := hb4
  obtain ⟨g4, rfl, hg4, hg4', -⟩ := hn4.old
  clear hn4 hb4 hB3
  go_wp2_with fail
  refine (foldI_any _ ns r _ (HT.out.below hsz hB4) hln (HO4.out.nodes (by omega)) HR.out).mono ?_
  rintro e w5 ⟨v5, rfl, hn5, hb5⟩
  have HF5 : Hid (NFree w4.heap.size w5 v5 r) := hn5
  have hB5 := hB4.trans (hb5.mono hB4.size)
  have HB35 : Hid (Below w3.heap.size w3 w5) := HB34.out.trans (hb5.mono HB34.out.size)
  have HB45 : Hid (Below w4.heap.size w4 w5) := hb5
  obtain ⟨g5, c5, rfl, hg5, -, -⟩ := hn5.old
  clear hn5 hb5 hB4 HB34
  go_wp2_with fail
  refine (eqNodes_any _ _ r w5 (by have := HRl.out; omega) HF5.out.nodes (HVW.out.below HB35.out)).mono ?_
  rintro e w6 ⟨rfl, hb6⟩
  have hB6 := hB5.trans (hb6.mono hB5.size)
  have HF6 : Hid (NFree w4.heap.size w6 (.slice (some ⟨g5, 0, none⟩) r.length c5) r) := HF5.out.below hb6
  have HB36 : Hid (Below w3.heap.size w3 w6) := HB35.out.trans (hb6.mono HB35.out.size)
  have HO6 : Hid (NodesO w3.heap.size w6 (.slice (some ⟨g4, 0, none⟩) ns.length ns.length) ns) := (HO4.out.below HB45.out).below hb6
  have HNA : Hid (Nodes w6 (.slice a ns.length cap) ns) := HN.out.below hB6
  have hs46 : w4.heap.size ≤ w6.heap.size := Nat.le_trans HB45.out.size hb6.size
  have hdr : Below w6.heap.size w6 w6.drew := (Below.refl _ _).drew
  clear HF5 HB35 HO4 HB45 hb6 hB5
  go_wp2_with fail
  refine (toNodes_any _ ns _ hln HNA.out).mono ?_
  rintro e w7 ⟨v7, rfl, hn7, hb7⟩
  obtain ⟨g7, rfl, -⟩ := hn7.old
  have HN7 : Hid (Nodes w7 (.slice (some ⟨g7, 0, none⟩) ns.length ns.length) ns) := hn7.nodes (by omega)
  have HB7 : Hid (Below w6.heap.size w6 w7) := hb7
  clear hn7 hb7
  go_wp2_with fail
  refine (eqNodes_any _ _ ns _ hln ((HO6.out.nodes (by omega)).below HB7.out) HN7.out).mono ?_
  rintro e w8 ⟨rfl, hb8⟩
  have hb68 : Below w6.heap.size w6 w8 := HB7.out.trans (hb8.mono HB7.out.size)
  have hB8 := hB6.trans (hb68.mono hB6.size)
  have HO8 : Hid (OldN w8 g4 (ns.length * 3)) := by
    obtain ⟨g, he, -, -, ho⟩ := (HO6.out.below hb68).old
    simp only [Value.slice.injEq, Option.some.injEq, Addr.mk.injEq, and_true] at he
    obtain ⟨rfl, _⟩ := he
    exact ho
  have HF8 : Hid (NFree w4.heap.size w8 (.slice (some ⟨g5, 0, none⟩) r.length c5) r) := HF6.out.below hb68
  have HB38 : Hid (Below w3.heap.size w3 w8) := HB36.out.trans (hb68.mono HB36.out.size)
  have hs48 : w4.heap.size ≤ w8.heap.size := Nat.le_trans hs46 hb68.size
  clear HF6 HB36 HO6 HNA hs46 hdr hB6 HN7 HB7 hb8 hb68
  go_wp2_with fail
  refine (markN_any g4 ns.length ns.length 1 w8 hln (by omega) (by omega) HO8.out).mono ?_
  rintro e w9 ⟨rfl, ht9, -⟩
  have hB9 := hB8.trans (ht9.below (B := w.heap.size) (by omega) (by omega))
  have HB39 : Hid (Below w3.heap.size w3 w9) := HB38.out.trans (ht9.below hg4 HB38.out.size)
  have HF9 : Hid (NFree w4.heap.size w9 (.slice (some ⟨g5, 0, none⟩) r.length c5) r) := HF8.out.tn ht9 hg4'
  have hk0 : (0 : Int) ≤ ((1 + 3 * ns.length : Nat) : Int) := by omega
  generalize ((1 + 3 * ns.length : Nat) : Int) = kc at hk0 ⊢
  clear ht9 HO8 HF8 HB38 hB8
  go_wp2_with fail
  refine (eqNodes_any _ _ r w9 (by have := HRl.out; omega) HF9.out.nodes (HVW.out.below HB39.out)).mono ?_
  rintro e w10 ⟨rfl, hb10⟩
  have hB10 := hB9.trans (hb10.mono hB9.size)
  have HB310 : Hid (Below w3.heap.size w3 w10) := HB39.out.trans (hb10.mono HB39.out.size)
  have HF10 : Hid (NFree w4.heap.size w10 (.slice (some ⟨g5, 0, none⟩) r.length c5) r) := HF9.out.below hb10
  have HO10 : Hid (OldN w10 g5 (r.length * 3)) := by
    obtain ⟨g, c, he, -, -, ho⟩ := HF10.out.old
    simp only [Value.slice.injEq, Option.some.injEq, Addr.mk.injEq, and_true] at he
    obtain ⟨rfl, _⟩ := he
    exact ho
  have hrl : r.length ≤ 2000 := HRl.out
  clear hb10 HF9 HB39 hB9
  go_wp2_with fail
  refine (markN_any g5 r.length c5 1 w10 (by omega) (by omega) (by omega) HO10.out).mono ?_
  rintro e w11 ⟨rfl, ht11, hm11⟩
  obtain ⟨mm, hmm⟩ : ∃ mm : Int, mm = ((1 + 3 * r.length : Nat) : Int) := ⟨_, rfl⟩
  rw [← hmm]
  have HMm : Hid (mm = ((1 + 3 * r.length : Nat) : Int)) := hmm
  have hm0 : (0 : Int) ≤ mm := by omega
  clear hmm
  have hB11 := hB10.trans (ht11.below (B := w.heap.size) (by have := HB310.out.size; omega) (by have := hB10.size; omega))
  have HB311 : Hid (Below w3.heap.size w3 w11) := HB310.out.trans (ht11.below (by omega) HB310.out.size)
  have HMk : Hid (MkdN w11 g5 1 r.length) := hm11
  clear ht11 HO10 HF10 HB310 hB10 hm11
  go_wp2_with fail
  refine (heldN_any g5 r.length c5 1 w11 (by omega) (by omega) (by omega) HMk.out).mono ?_
  rintro e w12 ⟨rfl, hb12⟩
  have hB12 := hB11.trans (hb12.mono hB11.size)
  have HB312 : Hid (Below w3.heap.size w3 w12) := HB311.out.trans (hb12.mono HB311.out.size)
  rw [← HMm.out]
  clear hb12 HMk HB311 hB11
  go_wp2_with fail
  refine (toNodes_any _ ns _ hln (HN.out.below hB12)).mono ?_
  rintro e w13 ⟨v13, rfl, hn13, hb13⟩
  obtain ⟨g13, rfl, -⟩ := hn13.old
  have HN13 : Hid (Nodes w13 (.slice (some ⟨g13, 0, none⟩) ns.length ns.length) ns) := hn13.nodes (by omega)
  have hB13 := hB12.trans (hb13.mono hB12.size)
  have HB313 : Hid (Below w3.heap.size w3 w13) := HB312.out.trans (hb13.mono HB312.out.size)
  clear hn13 hb13 HB312 hB12
  go_wp2_with fail
  refine (foldI_any _ ns r _ (HT.out.below hsz hB13) hln HN13.out HR.out).mono ?_
  rintro e w14 ⟨v14, rfl, hn14, hb14⟩
  have HF14 : Hid (Nodes w14 v14 r) := hn14.nodes
  have hB14 := hB13.trans (hb14.mono hB13.size)
  have HB314 : Hid (Below w3.heap.size w3 w14) := HB313.out.trans (hb14.mono HB313.out.size)
  obtain ⟨g14, c14, rfl, -⟩ := hn14
  clear hb14 HB313 hB13 HN13
  go_wp2_with fail
  refine (eqNodes_any _ _ r w14 (by omega) HF14.out (HVW.out.below HB314.out)).mono ?_
  rintro e w15 ⟨rfl, hb15⟩
  have hB15 := hB14.trans (hb15.mono hB14.size)
  clear hb15
  go_wp2_with fail
  go_ret
  exact ⟨rfl, hB15⟩

end Go.Proofs.YtbmcnjjhgjphmaaDoor
