import Derived.Test.YtjnnepkoeloekaaGreatDoorPY7
import Derived.Test.YtjnnepkoeloekaaGreatDoorPY9
namespace Go.Proofs.YtjnnepkoeloekaaGreatDoor
open Go.RowKit
set_option linter.unusedVariables false
set_option linter.unusedSimpArgs false

theorem fld_str (a : ByteArray) (b c d : Int) (W : World) : (Instr.field 150 (.agg #[.string a, .int .i64 b, .int .i64 c, .int .i64 d]) 1).run Tryz.prog W = .ok (.int .i64 b) W := by kernel_rfl
theorem fld_sym (a : ByteArray) (b c d : Int) (W : World) : (Instr.field 150 (.agg #[.string a, .int .i64 b, .int .i64 c, .int .i64 d]) 0).run Tryz.prog W = .ok (.string a) W := by kernel_rfl

set_option maxRecDepth 20000 in
set_option maxHeartbeats 1000000 in
theorem operand_any (w0 : World) (P : Nat) (e : List Nd) (s : List UInt8) (hX : ExprSpec w0 P e s) (h0 : w0.heap.size ≤ P) (hT : BTab w0) (he : 0 < e.length) (hl1 : e.length ≤ 1048576) (hg : nodeB (rootN e) = true) (t : Int) (v : Value) (l : List UInt8) (w : World) (hN : Nodes w0 v e) (hB : Below w0.heap.size w0 w) (hO : Out w P l) (hl : l.length + (heldL s (decide (strN (rootN e) < t))).length ≤ 900000000) :
    Calls Tryz.prog 105 #[.pointer (some ⟨P, 0, none⟩), v, .int .i64 t] w fun x w' => (∃ u, x = .returned u) ∧ Out w' P (l ++ heldL s (decide (strN (rootN e) < t))) ∧ Wr P w w' := by
  have HX : Hid (ExprSpec w0 P e s) := hX
  have HN : Hid (Nodes w0 v e) := hN
  have HB : Hid (Below w0.heap.size w0 w) := hB
  have HO : Hid (Out w P l) := hO
  have HL : Hid (l.length + (heldL s (decide (strN (rootN e) < t))).length ≤ 900000000) := hl
  have HT : Hid (BTab w0) := hT
  have HG : Hid (nodeB (rootN e) = true) := hg
  obtain ⟨m, hm⟩ : ∃ m, e.length = m + 1 := ⟨e.length - 1, by omega⟩
  obtain ⟨a, cap, rfl, hcl, hcm, hc⟩ := hN.below hB
  obtain ⟨bb, off, rfl, hc1⟩ := hc he
  obtain ⟨d0, d1, d2⟩ := hc1 m (by omega)
  have hr : e[m] = rootN e := by rw [rootN_eq e he]; simp [hm]
  rw [hr] at d0 d1 d2
  have HBT : Hid (BTab w) := hT.below hB
  clear hX hB hO hl hT hg hc hc1 hr hN
  generalize hR : rootN e = R at d0 d1 d2 HG HL ⊢
  clear hR
  have e1 : ((m + 1 : Nat) : Int) - 1 = (m : Int) := by omega
  rw [hm] at HN hcl ⊢
  have HM : Hid (e.length = m + 1) := hm
  rw [hm] at hl1
  clear hm he
  by_cases ht : t ≤ strN R
  · have hd : heldL s (decide (strN R < t)) = s := by rw [decide_eq_false (by omega)]; rfl
    rw [hd] at HL ⊢
    clear hd
    go_enter Tryz.func105, Tryz.ntmps105
    go_wp2_with fail
    refine (bin_any R HG.out w HBT.out).mono ?_
    rintro x w1 ⟨⟨sy, k, vv, rfl, -⟩, hb1⟩
    have HB1 : Hid (Below w0.heap.size w0 w1) := HB.out.trans (hb1.mono HB.out.size)
    have HO1 : Hid (Out w1 P l) := HO.out.below hb1
    have HW1 : Hid (Wr P w w1) := Wr.below HO.out.1 hb1
    clear d0 d1 d2
    have hfld := fld_str
    go_wp2_with fail
    refine (HX.out _ l w1 HN.out HB1.out HO1.out (by have := HL.out; omega)).mono ?_
    rintro x w2 ⟨⟨u2, rfl⟩, hO2, hW2⟩
    have HO2 : Hid (Out w2 P (l ++ s)) := hO2
    have HW2 : Hid (Wr P w w2) := HW1.out.trans hW2
    clear hO2 hW2
    go_wp2_with fail
    go_end0
    exact ⟨⟨_, rfl⟩, HO2.out, HW2.out⟩
  · have hd : heldL s (decide (strN R < t)) = [40] ++ (s ++ [41]) := by rw [decide_eq_true (by omega)]; rfl
    rw [hd] at HL ⊢
    clear hd
    go_enter Tryz.func105, Tryz.ntmps105
    go_wp2_with fail
    refine (bin_any R HG.out w HBT.out).mono ?_
    rintro x w1 ⟨⟨sy, k, vv, rfl, -⟩, hb1⟩
    have HB1 : Hid (Below w0.heap.size w0 w1) := HB.out.trans (hb1.mono HB.out.size)
    have HO1 : Hid (Out w1 P l) := HO.out.below hb1
    have HW1 : Hid (Wr P w w1) := Wr.below HO.out.1 hb1
    clear d0 d1 d2
    have hfld := fld_str
    go_wp2_with fail
    refine (line_any w0 P e s [40] [41] HX.out h0 _ l w1 HN.out HB1.out HO1.out (by have := HL.out; simp at this ⊢; omega)).mono ?_
    rintro x w2 ⟨⟨u2, rfl⟩, hO2, hW2⟩
    have HO2 : Hid (Out w2 P (l ++ ([40] ++ (s ++ [41])))) := hO2
    have HW2 : Hid (Wr P w w2) := HW1.out.trans hW2
    clear hO2 hW2
    go_wp2_with fail
    go_end0
    exact ⟨⟨_, rfl⟩, HO2.out, HW2.out⟩

end Go.Proofs.YtjnnepkoeloekaaGreatDoor
