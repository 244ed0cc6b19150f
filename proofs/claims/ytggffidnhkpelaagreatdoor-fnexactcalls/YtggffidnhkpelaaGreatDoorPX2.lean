import Derived.Test.YtggffidnhkpelaaGreatDoorPX1
namespace Go.Proofs.YtggffidnhkpelaaGreatDoor
open Go.RowKit
set_option linter.unusedVariables false
set_option linter.unusedSimpArgs false
theorem ret_int' {k : IntKind} {a b : Int} (h : a = b) : Ending.returned (.int k a) = .returned (.int k b) := by rw [h]

set_option maxHeartbeats 1000000 in
theorem markNodes_any (B T : Nat) (v : Value) (n k : Nat) (w : World) (hn : n ≤ 1048576) (h0 : 0 < k) (hk : (k : Int) + 3 * n ≤ 1000000000) (h : PlainM B T 71 3 w v n) :
    Calls Tryz.prog 61 #[v, .int .i64 k] w fun e w' => e = .returned (.int .i64 ((k + 3 * n : Nat) : Int)) ∧ Sh B T w w' := by
  have HP : Hid (PlainM B T 71 3 w v n) := h
  obtain ⟨g, cur, rfl, -, -, -, -, -⟩ := h
  go_enter Tryz.func61, Tryz.ntmps61
  go_wp2_with fail
  go_loopw [1, 5] (fun q i wr => ∃ j : Nat, j ≤ n ∧ i = .int .i64 j ∧ q = .int .i64 ((k + 3 * j : Nat) : Int) ∧ Sh B T w wr) (fun _ i _ => n - (intOf i).toNat)
  case atStart => exact ⟨0, Nat.zero_le _, rfl, by simp, Sh.refl _ _ _⟩
  case round =>
    obtain ⟨j, hj, rfl, rfl, hS⟩ := hrel
    by_cases hlt : j < n
    · have hP := HP.out.sh hS
      generalize hq : k + 3 * j = q
      have hqb : (q : Int) + 3 ≤ 1000000000 := by omega
      have hq0 : 0 < q := by omega
      have HQ : Hid (k + 3 * j = q) := hq
      clear hq
      obtain ⟨⟨y0, o0⟩, f0⟩ := hP.old (i := j * 3) (by omega)
      have s0 := hP.set (i := j * 3) (u := .int .i64 ((q : Int))) (by omega) (plain_int _ _)
      have P0 := hP.sh s0
      have S0 := hS.trans s0
      obtain ⟨⟨y1, o1⟩, f1⟩ := P0.old (i := j * 3 + 1) (by omega)
      have s1 := P0.set (i := j * 3 + 1) (u := .int .i64 ((q : Int) + 1)) (by omega) (plain_int _ _)
      have P1 := P0.sh s1
      have S1 := S0.trans s1
      obtain ⟨⟨y2, o2⟩, f2⟩ := P1.old (i := j * 3 + 2) (by omega)
      have H2 : Hid _ := P1
      have HS2 : Hid _ := S1
      clear P1
      go_wp2_with fail
      rw [show ((q : Int) + 1 + 1) = ((q + 2 : Nat) : Int) by omega]
      refine (mtext_any (q + 2) (by omega) (by omega) _).mono ?_
      rintro e w2 ⟨rfl, hb2⟩
      have Q2 : PlainM B T 71 3 w2 (.slice (some ⟨g, 0, none⟩) n n) n := PlainM.sh H2.out (Sh.of_below hb2)
      have R2 := HS2.out.trans (Sh.of_below hb2)
      obtain ⟨⟨z2, p2⟩, r2⟩ := Q2.old (i := j * 3 + 2) (by omega)
      have s2 := Q2.set (i := j * 3 + 2) (u := .string (mtxt (q + 2))) (by omega) (plain_str _)
      have P2 := Q2.sh s2
      have S2 := R2.trans s2
      have HF : Hid _ := S2
      try clear hP
      try clear hS
      go_wp2_with fail
      go_roundw
      case rel => exact ⟨j + 1, by omega, by go_num, by rw [show k + 3 * (j + 1) = q + 3 by have := HQ.out; omega]; go_num, HF.out⟩
      case measure => simp [intOf]; omega
    · go_wp2_with fail
      go_ret
      have hjn : j = n := by omega
      exact ⟨ret_int' (by rw [hjn]), hS⟩

set_option maxHeartbeats 1000000 in
theorem markStrs_any (B T : Nat) (v : Value) (n k : Nat) (w : World) (hn : n ≤ 1048576) (h0 : 0 < k) (hk : (k : Int) + 1 * n ≤ 1000000000) (h : PlainM B T 9 1 w v n) :
    Calls Tryz.prog 42 #[v, .int .i64 k] w fun e w' => e = .returned (.int .i64 ((k + 1 * n : Nat) : Int)) ∧ Sh B T w w' := by
  have HP : Hid (PlainM B T 9 1 w v n) := h
  obtain ⟨g, cur, rfl, -, -, -, -, -⟩ := h
  go_enter Tryz.func42, Tryz.ntmps42
  go_wp2_with fail
  go_loopw [1, 5] (fun q i wr => ∃ j : Nat, j ≤ n ∧ i = .int .i64 j ∧ q = .int .i64 ((k + 1 * j : Nat) : Int) ∧ Sh B T w wr) (fun _ i _ => n - (intOf i).toNat)
  case atStart => exact ⟨0, Nat.zero_le _, rfl, by simp, Sh.refl _ _ _⟩
  case round =>
    obtain ⟨j, hj, rfl, rfl, hS⟩ := hrel
    by_cases hlt : j < n
    · have hP := HP.out.sh hS
      generalize hq : k + 1 * j = q
      have hqb : (q : Int) + 1 ≤ 1000000000 := by omega
      have hq0 : 0 < q := by omega
      have HQ : Hid (k + 1 * j = q) := hq
      clear hq
      obtain ⟨⟨y0, o0⟩, f0⟩ := hP.old (i := j) (by omega)
      have H0 : Hid _ := hP
      have HS0 : Hid _ := hS
      clear hP
      go_wp2_with fail
      refine (mtext_any q (by omega) (by omega) _).mono ?_
      rintro e w0 ⟨rfl, hb0⟩
      have Q0 : PlainM B T 9 1 w0 (.slice (some ⟨g, 0, none⟩) n n) n := PlainM.sh H0.out (Sh.of_below hb0)
      have R0 := HS0.out.trans (Sh.of_below hb0)
      obtain ⟨⟨z0, p0⟩, r0⟩ := Q0.old (i := j) (by omega)
      have s0 := Q0.set (i := j) (u := .string (mtxt q)) (by omega) (plain_str _)
      have P0 := Q0.sh s0
      have S0 := R0.trans s0
      have HF : Hid _ := S0
      try clear hP
      try clear hS
      go_wp2_with fail
      go_roundw
      case rel => exact ⟨j + 1, by omega, by go_num, by rw [show k + 1 * (j + 1) = q + 1 by have := HQ.out; omega]; go_num, HF.out⟩
      case measure => simp [intOf]; omega
    · go_wp2_with fail
      go_ret
      have hjn : j = n := by omega
      exact ⟨ret_int' (by rw [hjn]), hS⟩

set_option maxHeartbeats 1000000 in
theorem markGlobs_any (B T : Nat) (v : Value) (n k : Nat) (w : World) (hn : n ≤ 1048576) (h0 : 0 < k) (hk : (k : Int) + 2 * n ≤ 1000000000) (h : PlainM B T 64 2 w v n) :
    Calls Tryz.prog 25 #[v, .int .i64 k] w fun e w' => e = .returned (.int .i64 ((k + 2 * n : Nat) : Int)) ∧ Sh B T w w' := by
  have HP : Hid (PlainM B T 64 2 w v n) := h
  obtain ⟨g, cur, rfl, -, -, -, -, -⟩ := h
  go_enter Tryz.func25, Tryz.ntmps25
  go_wp2_with fail
  go_loopw [1, 5] (fun q i wr => ∃ j : Nat, j ≤ n ∧ i = .int .i64 j ∧ q = .int .i64 ((k + 2 * j : Nat) : Int) ∧ Sh B T w wr) (fun _ i _ => n - (intOf i).toNat)
  case atStart => exact ⟨0, Nat.zero_le _, rfl, by simp, Sh.refl _ _ _⟩
  case round =>
    obtain ⟨j, hj, rfl, rfl, hS⟩ := hrel
    by_cases hlt : j < n
    · have hP := HP.out.sh hS
      generalize hq : k + 2 * j = q
      have hqb : (q : Int) + 2 ≤ 1000000000 := by omega
      have hq0 : 0 < q := by omega
      have HQ : Hid (k + 2 * j = q) := hq
      clear hq
      obtain ⟨⟨y0, o0⟩, f0⟩ := hP.old (i := j * 2) (by omega)
      have H0 : Hid _ := hP
      have HS0 : Hid _ := hS
      clear hP
      go_wp2_with fail
      refine (mtext_any q (by omega) (by omega) _).mono ?_
      rintro e w0 ⟨rfl, hb0⟩
      have Q0 : PlainM B T 64 2 w0 (.slice (some ⟨g, 0, none⟩) n n) n := PlainM.sh H0.out (Sh.of_below hb0)
      have R0 := HS0.out.trans (Sh.of_below hb0)
      obtain ⟨⟨z0, p0⟩, r0⟩ := Q0.old (i := j * 2) (by omega)
      have s0 := Q0.set (i := j * 2) (u := .string (mtxt q)) (by omega) (plain_str _)
      have P0 := Q0.sh s0
      have S0 := R0.trans s0
      obtain ⟨⟨y1, o1⟩, f1⟩ := P0.old (i := j * 2 + 1) (by omega)
      have s1 := P0.set (i := j * 2 + 1) (u := .int .i64 ((q : Int) + 1)) (by omega) (plain_int _ _)
      have P1 := P0.sh s1
      have S1 := S0.trans s1
      have HF : Hid _ := S1
      try clear hP
      try clear hS
      go_wp2_with fail
      go_roundw
      case rel => exact ⟨j + 1, by omega, by go_num, by rw [show k + 2 * (j + 1) = q + 2 by have := HQ.out; omega]; go_num, HF.out⟩
      case measure => simp [intOf]; omega
    · go_wp2_with fail
      go_ret
      have hjn : j = n := by omega
      exact ⟨ret_int' (by rw [hjn]), hS⟩

end Go.Proofs.YtggffidnhkpelaaGreatDoor
