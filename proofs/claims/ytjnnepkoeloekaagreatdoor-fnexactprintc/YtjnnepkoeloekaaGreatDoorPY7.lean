import Derived.Test.YtjnnepkoeloekaaGreatDoorPY6
namespace Go.Proofs.YtjnnepkoeloekaaGreatDoor
open Go.RowKit
set_option linter.unusedVariables false
set_option linter.unusedSimpArgs false

theorem flat_step (ts : List (List UInt8)) (k : Nat) (h : k < ts.length) : (ts.take (k + 1)).flatten = (ts.take k).flatten ++ ts[k] := by
  rw [take_succ ts k h, List.flatten_append]
  simp only [List.flatten_cons, List.flatten_nil, List.append_nil]
theorem flat_le (ts : List (List UInt8)) (k : Nat) : (ts.take k).flatten.length ≤ ts.flatten.length := by
  have h : ts.flatten = (ts.take k).flatten ++ (ts.drop k).flatten := by rw [← List.flatten_append, List.take_append_drop]
  rw [h, List.length_append]
  omega
set_option maxRecDepth 20000 in
set_option maxHeartbeats 1000000 in
theorem put_any (P g cap : Nat) (l : List UInt8) (ts : List (List UInt8)) (w : World) (hO : Out w P l) (hg : g ≠ P) (hgr : some g ≠ rb w P) (hT : TextsC w g ts) (hcap : ts.length ≤ cap) (hcm : cap ≤ 1000000) (hl : l.length + ts.flatten.length ≤ 1000000000) :
    Calls Tryz.prog 37 #[.pointer (some ⟨P, 0, none⟩), .slice (some ⟨g, 0, none⟩) ts.length cap] w fun e w' => (∃ u, e = .returned u) ∧ Out w' P (l ++ ts.flatten) ∧ Wr P w w' := by
  obtain ⟨i0, hi, hz0, hz1, hz2⟩ := info_parts info_byte
  have HT : Hid (TextsC w g ts) := hT
  have HO : Hid (Out w P l) := hO
  have HG : Hid (some g ≠ rb w P) := hgr
  have HL : Hid (l.length + ts.flatten.length ≤ 1000000000) := hl
  clear hT hO hgr hl
  go_enter Tryz.func37, Tryz.ntmps37
  go_wp2_with fail
  go_loopw [5, 8] (fun pc ix wr => ∃ (k : Nat), k ≤ ts.length ∧ ix = .int .i64 k ∧ Out wr P (l ++ (ts.take k).flatten) ∧ Wr P w wr) (fun _ ix _ => ts.length - (intOf ix).toNat)
  case atStart => exact ⟨0, Nat.zero_le _, rfl, by simpa using HO.out, Wr.refl _ _⟩
  case round =>
    obtain ⟨k, hk, rfl, hO1, hW⟩ := hrel
    have HO1 : Hid (Out wr P (l ++ (ts.take k).flatten)) := hO1
    have HW : Hid (Wr P w wr) := hW
    clear hO1 hW
    by_cases hlt : k < ts.length
    · have hc := HW.out.cell hg HG.out (HT.out k hlt)
      obtain ⟨hP, hfz, v, hv, hown⟩ := HO1.out
      have HOwn : Hid _ := hown
      have HF : Hid (wr.frozen? ⟨P, 0, none⟩ = false) := hfz
      clear hown hfz
      have hbt : (l ++ (ts.take k).flatten).length + (tx ts[k]).size ≤ 1000000000 := by
        have h1 := flat_le ts (k + 1)
        rw [flat_step ts k hlt] at h1
        have h2 := HL.out
        rw [tx_size]
        simp only [List.length_append] at h1 ⊢
        omega
      have HBt : Hid _ := hbt
      have HS : Hid ((ts.take (k + 1)).flatten = (ts.take k).flatten ++ ts[k]) := flat_step ts k hlt
      generalize hpc : ts[k] = pc at *
      clear hbt hpc
      have HS2 : Hid (l ++ (ts.take (k + 1)).flatten = (l ++ (ts.take k).flatten) ++ pc) := by
        show _ = _
        rw [HS.out, List.append_assoc]
      clear HS
      generalize hcur : l ++ (ts.take k).flatten = cur at HS2 HBt HOwn HO1
      clear hcur
      go_wp2_with (at_builtin; refine wpList_app rfl _ _ 27 9 rfl (P + 1) 5 i0 Tryz.underlying27 Tryz.underlying9 hi hz0 hz1 hz2 v _ _ rfl HOwn.out (tx pc) rfl HBt.out (by omega) ?_)
      intro v' w2 hown2 hgrow hfr
      rw [tx_size] at hown2
      obtain ⟨f2, c2, hO2, hW2⟩ := out_step HO1.out hv hown2 hgrow hfr
      obtain ⟨va, vn, vc, rfl⟩ : ∃ va vn vc, v' = .slice va vn vc := by
        rcases hown2.2 with ⟨rfl, _⟩ | ⟨g, cap, cur, rfl, _⟩
        · exact ⟨_, _, _, rfl⟩
        · exact ⟨_, _, _, rfl⟩
      have HO2 : Hid (Out (w2.setCell ⟨P, 0, none⟩ (.slice va vn vc)) P (cur ++ pc)) := hO2
      have HW2 : Hid (Wr P wr (w2.setCell ⟨P, 0, none⟩ (.slice va vn vc))) := hW2
      clear hO2 hW2 hown2 hgrow hfr hv hc
      go_wp2_with fail
      go_roundw
      case rel => exact ⟨k + 1, by omega, by go_num, by rw [HS2.out]; exact HO2.out, HW.out.trans HW2.out⟩
      case measure => simp [intOf]; omega
    · obtain rfl : k = ts.length := by omega
      go_wp2_with fail
      have := HO1.out
      rw [List.take_length] at this
      go_end0
      exact ⟨⟨_, rfl⟩, this, HW.out⟩

end Go.Proofs.YtjnnepkoeloekaaGreatDoor

namespace Go.Proofs.YtjnnepkoeloekaaGreatDoor
open Go.RowKit
set_option linter.unusedVariables false
set_option linter.unusedSimpArgs false

theorem putN (P : Nat) (l : List UInt8) (ts : List (List UInt8)) (w : World) (hO : Out w P l) (hn : ts.length ≤ 3) (hl : l.length + ts.flatten.length ≤ 1000000000) :
    Calls Tryz.prog 37 #[.pointer (some ⟨P, 0, none⟩), .slice (some ⟨w.heap.size, 0, none⟩) ts.length ts.length] (w.alloc (.cells (ts.map fun t => Value.string (tx t)).toArray 9)) fun e w' => (∃ u, e = .returned u) ∧ Out w' P (l ++ ts.flatten) ∧ Wr P w w' := by
  have hb : Below w.heap.size w (w.alloc (.cells (ts.map fun t => Value.string (tx t)).toArray 9)) := (Below.refl _ _).alloc (Nat.le_refl _) _
  refine (put_any P w.heap.size ts.length l ts _ (hO.below hb) (by have := hO.1; omega) (hO.rb_ne _) (fun j hj => ?_) (Nat.le_refl _) (by omega) hl).mono ?_
  · simp [hj]
  · rintro e w' ⟨h1, h2, h3⟩
    exact ⟨h1, h2, (Wr.below hO.1 hb).trans h3⟩
theorem put1 (P : Nat) (l a : List UInt8) (w : World) (hO : Out w P l) (hl : l.length + a.length ≤ 900000000) :
    Calls Tryz.prog 37 #[.pointer (some ⟨P, 0, none⟩), .slice (some ⟨w.heap.size, 0, none⟩) 1 1] (w.alloc (.cells #[.string (tx a)] 9)) fun e w' => (∃ u, e = .returned u) ∧ Out w' P (l ++ a) ∧ Wr P w w' := by
  have := putN P l [a] w hO (by simp) (by simp; omega)
  simpa using this
theorem put2 (P : Nat) (l a b : List UInt8) (w : World) (hO : Out w P l) (hl : l.length + (a.length + b.length) ≤ 900000000) :
    Calls Tryz.prog 37 #[.pointer (some ⟨P, 0, none⟩), .slice (some ⟨w.heap.size, 0, none⟩) 2 2] (w.alloc (.cells #[.string (tx a), .string (tx b)] 9)) fun e w' => (∃ u, e = .returned u) ∧ Out w' P (l ++ (a ++ b)) ∧ Wr P w w' := by
  have := putN P l [a, b] w hO (by simp) (by simp; omega)
  simpa using this
theorem put3 (P : Nat) (l a b c : List UInt8) (w : World) (hO : Out w P l) (hl : l.length + (a.length + (b.length + c.length)) ≤ 900000000) :
    Calls Tryz.prog 37 #[.pointer (some ⟨P, 0, none⟩), .slice (some ⟨w.heap.size, 0, none⟩) 3 3] (w.alloc (.cells #[.string (tx a), .string (tx b), .string (tx c)] 9)) fun e w' => (∃ u, e = .returned u) ∧ Out w' P (l ++ (a ++ (b ++ c))) ∧ Wr P w w' := by
  have := putN P l [a, b, c] w hO (by simp) (by simp; omega)
  simpa using this

/-- What expr does at e, whose nodes lie in the world w0 below the printer P. -/
def ExprSpec (w0 : World) (P : Nat) (e : List Nd) (s : List UInt8) : Prop :=
  ∀ (v : Value) (l : List UInt8) (w : World), Nodes w0 v e → Below w0.heap.size w0 w → Out w P l → l.length + s.length ≤ 900000000 →
    Calls Tryz.prog 97 #[.pointer (some ⟨P, 0, none⟩), v] w fun x w' => (∃ u, x = .returned u) ∧ Out w' P (l ++ s) ∧ Wr P w w'

set_option maxRecDepth 20000 in
set_option maxHeartbeats 1000000 in
theorem line_any (w0 : World) (P : Nat) (e : List Nd) (s a b : List UInt8) (hX : ExprSpec w0 P e s) (h0 : w0.heap.size ≤ P) (v : Value) (l : List UInt8) (w : World) (hN : Nodes w0 v e) (hB : Below w0.heap.size w0 w) (hO : Out w P l) (hl : l.length + (a.length + (s.length + b.length)) ≤ 900000000) :
    Calls Tryz.prog 81 #[.pointer (some ⟨P, 0, none⟩), .string (tx a), v, .string (tx b)] w fun x w' => (∃ u, x = .returned u) ∧ Out w' P (l ++ (a ++ (s ++ b))) ∧ Wr P w w' := by
  have HX : Hid (ExprSpec w0 P e s) := hX
  have HN : Hid (Nodes w0 v e) := hN
  have HB : Hid (Below w0.heap.size w0 w) := hB
  have HO : Hid (Out w P l) := hO
  have HL : Hid (l.length + (a.length + (s.length + b.length)) ≤ 900000000) := hl
  clear hX hN hB hO hl
  go_enter Tryz.func81, Tryz.ntmps81
  go_wp2_with fail
  refine (put1 P l a w HO.out (by have := HL.out; omega)).mono ?_
  rintro x w1 ⟨⟨u, rfl⟩, hO1, hW1⟩
  have HO1 : Hid (Out w1 P (l ++ a)) := hO1
  have HW1 : Hid (Wr P w w1) := hW1
  have HB1 : Hid (Below w0.heap.size w0 w1) := HB.out.trans ((hW1.toBelow HO.out).mono h0)
  clear hO1 hW1
  go_wp2_with fail
  refine (HX.out v (l ++ a) w1 HN.out HB1.out HO1.out (by have := HL.out; simp only [List.length_append]; omega)).mono ?_
  rintro x w2 ⟨⟨u2, rfl⟩, hO2, hW2⟩
  have HO2 : Hid (Out w2 P (l ++ a ++ s)) := hO2
  have HW2 : Hid (Wr P w w2) := HW1.out.trans hW2
  clear hO2 hW2
  go_wp2_with fail
  refine (put1 P (l ++ a ++ s) b w2 HO2.out (by have := HL.out; simp only [List.length_append]; omega)).mono ?_
  rintro x w3 ⟨⟨u3, rfl⟩, hO3, hW3⟩
  have HO3 : Hid (Out w3 P (l ++ a ++ s ++ b)) := hO3
  have HW3 : Hid (Wr P w w3) := HW2.out.trans hW3
  clear hO3 hW3
  go_wp2_with fail
  go_end0
  refine ⟨⟨_, rfl⟩, ?_, HW3.out⟩
  have := HO3.out
  simpa only [List.append_assoc] using this

end Go.Proofs.YtjnnepkoeloekaaGreatDoor
