import Derived.Test.YtefnijmgdcfhiaaGreatDoorQV9
import Derived.Test.YtefnijmgdcfhiaaGreatDoorQV9a
namespace Go.Proofs.YtefnijmgdcfhiaaGreatDoor
open Go.RowKit
set_option linter.unusedVariables false
set_option linter.unusedSimpArgs false

set_option maxHeartbeats 2000000 in
theorem gstmt7 (s : ByteArray) (ve vf : Value) (es fs : List Nd) (t l : Int) (w : World) (hle : es.length ≤ 2000) (hlf : fs.length ≤ 2000) (he : Nodes w ve es) (hf : Nodes w vf fs) :
    Calls Tryz.prog 82 #[.agg #[.int .i64 7, .string s, ve, vf, .int .i64 t, .int .i64 l]] w fun e w' => e = .returned (.bool (gstmtB ⟨7, s, es, fs, t, l⟩)) ∧ Below w.heap.size w w' := by
  have HE : Hid (Nodes w ve es) := he
  have HF : Hid (Nodes w vf fs) := hf
  obtain ⟨ae, ce, rfl, -, -, -⟩ := he
  obtain ⟨af, cf, rfl, -, -, -⟩ := hf
  have HD : Hid (∀ b : Bool, (decide (es.length ≤ 2000) && b) = b) := fun b => by simp [hle]
  have HDF : Hid (∀ b : Bool, (decide (fs.length ≤ 2000) && b) = b) := fun b => by simp [hlf]
  go_enter Tryz.func82, Tryz.ntmps82
  go_wp2_with (go_at_call 58; refine (in_any _ _ _ _).mono ?_; rintro e w' ⟨rfl, rfl⟩)
  refine (gexpr_any _ es _ (by omega) (HE.out.below ((Below.refl _ _).alloc (Nat.le_refl _) _))).mono ?_
  rintro e w1 ⟨rfl, hb1⟩
  rw [HD.out]
  simp only [World.size_alloc] at hb1
  have hB1 := one_below hb1
  obtain ⟨x0, x1, x2, x3, x4, x5⟩ := box6 hb1
  cases ho : oneB es
  · go_wp2_with fail
    go_ret
    exact ⟨ret_bool (by simp only [gstmtB, stmtB]; simp [ho]), hB1⟩
  cases hn : nameB s
  case true =>
    go_wp2_with (go_at_call 57; refine (name_any _ _).mono ?_; rintro e w' ⟨rfl, rfl⟩; rw [hn])
    go_ret
    exact ⟨ret_bool (by simp only [gstmtB, stmtB]; simp [ho, nameB_empty hn, -List.beq_nil_eq]), hB1⟩
  cases hs : (s.toList == [])
  · have hs1 : (s.toList != []) = true := by rw [bne, hs]; rfl
    go_wp2_with (go_at_call 57; refine (name_any _ _).mono ?_; rintro e w' ⟨rfl, rfl⟩; rw [hn])
    go_ret
    exact ⟨ret_bool (by simp only [gstmtB, stmtB]; simp [ho, hs, -List.beq_nil_eq]), hB1⟩
  have hs1 : (s.toList != []) = false := by rw [bne, hs]; rfl
  by_cases hf0 : 0 < fs.length
  · go_wp2_with (go_at_call 57; refine (name_any _ _).mono ?_; rintro e w' ⟨rfl, rfl⟩; rw [hn])
    go_ret
    refine ⟨ret_bool ?_, hB1⟩
    have : (fs.length == 0) = false := by simp only [beq_eq_false_iff_ne]; omega
    simp only [gstmtB, stmtB, this]; simp [ho, hs, -List.beq_nil_eq]
  have HF0 : Hid ((fs.length == 0) = true) := by show _ = _; simp only [beq_iff_eq]; omega
  by_cases ht : t < 0
  · go_wp2_with (go_at_call 57; refine (name_any _ _).mono ?_; rintro e w' ⟨rfl, rfl⟩; rw [hn])
    all_goals go_ret
    all_goals refine ⟨ret_bool ?_, hB1⟩
    all_goals (simp only [gstmtB, stmtB, HF0.out]; simp [ho, hs, -List.beq_nil_eq] <;> omega)
  by_cases hl : l < 0
  · go_wp2_with (go_at_call 57; refine (name_any _ _).mono ?_; rintro e w' ⟨rfl, rfl⟩; rw [hn])
    all_goals go_ret
    all_goals refine ⟨ret_bool ?_, hB1⟩
    all_goals (simp only [gstmtB, stmtB, HF0.out]; simp [ho, hs, -List.beq_nil_eq] <;> omega)
  by_cases ht2 : 0 < t
  · go_wp2_with (go_at_call 57; refine (name_any _ _).mono ?_; rintro e w' ⟨rfl, rfl⟩; rw [hn])
    all_goals go_ret
    all_goals refine ⟨ret_bool ?_, hB1⟩
    all_goals (simp only [gstmtB, stmtB, HF0.out]; simp [ho, hs, -List.beq_nil_eq] <;> omega)
  by_cases hl2 : 0 < l
  · go_wp2_with (go_at_call 57; refine (name_any _ _).mono ?_; rintro e w' ⟨rfl, rfl⟩; rw [hn])
    all_goals go_ret
    all_goals refine ⟨ret_bool ?_, hB1⟩
    all_goals (simp only [gstmtB, stmtB, HF0.out]; simp [ho, hs, -List.beq_nil_eq] <;> omega)
  go_wp2_with (go_at_call 57; refine (name_any _ _).mono ?_; rintro e w' ⟨rfl, rfl⟩; rw [hn])
  all_goals go_ret
  all_goals refine ⟨ret_bool ?_, hB1⟩
  all_goals have ht' : 0 ≤ t := by omega
  all_goals have hl' : 0 ≤ l := by omega
  all_goals have e1 : t = 0 := by omega
  all_goals have e2 : l = 0 := by omega
  all_goals (simp only [gstmtB, stmtB, HF0.out]; simp [ho, hs, -List.beq_nil_eq, ht', hl', e1, e2])

set_option maxHeartbeats 2000000 in
theorem gstmt8 (s : ByteArray) (ve vf : Value) (es fs : List Nd) (t l : Int) (w : World) (hle : es.length ≤ 2000) (hlf : fs.length ≤ 2000) (he : Nodes w ve es) (hf : Nodes w vf fs) :
    Calls Tryz.prog 82 #[.agg #[.int .i64 8, .string s, ve, vf, .int .i64 t, .int .i64 l]] w fun e w' => e = .returned (.bool (gstmtB ⟨8, s, es, fs, t, l⟩)) ∧ Below w.heap.size w w' := by
  have HE : Hid (Nodes w ve es) := he
  have HF : Hid (Nodes w vf fs) := hf
  obtain ⟨ae, ce, rfl, -, -, -⟩ := he
  obtain ⟨af, cf, rfl, -, -, -⟩ := hf
  have HD : Hid (∀ b : Bool, (decide (es.length ≤ 2000) && b) = b) := fun b => by simp [hle]
  have HDF : Hid (∀ b : Bool, (decide (fs.length ≤ 2000) && b) = b) := fun b => by simp [hlf]
  go_enter Tryz.func82, Tryz.ntmps82
  go_wp2_with (go_at_call 58; refine (in_any _ _ _ _).mono ?_; rintro e w' ⟨rfl, rfl⟩)
  refine (gexpr_any _ es _ (by omega) (HE.out.below ((Below.refl _ _).alloc (Nat.le_refl _) _))).mono ?_
  rintro e w1 ⟨rfl, hb1⟩
  rw [HD.out]
  simp only [World.size_alloc] at hb1
  have hB1 := one_below hb1
  obtain ⟨x0, x1, x2, x3, x4, x5⟩ := box6 hb1
  cases ho : oneB es
  · go_wp2_with fail
    go_ret
    exact ⟨ret_bool (by simp only [gstmtB, stmtB]; simp [ho]), hB1⟩
  cases hn : nameB s
  case true =>
    go_wp2_with (go_at_call 57; refine (name_any _ _).mono ?_; rintro e w' ⟨rfl, rfl⟩; rw [hn])
    go_ret
    exact ⟨ret_bool (by simp only [gstmtB, stmtB]; simp [ho, nameB_empty hn, -List.beq_nil_eq]), hB1⟩
  cases hs : (s.toList == [])
  · have hs1 : (s.toList != []) = true := by rw [bne, hs]; rfl
    go_wp2_with (go_at_call 57; refine (name_any _ _).mono ?_; rintro e w' ⟨rfl, rfl⟩; rw [hn])
    go_ret
    exact ⟨ret_bool (by simp only [gstmtB, stmtB]; simp [ho, hs, -List.beq_nil_eq]), hB1⟩
  have hs1 : (s.toList != []) = false := by rw [bne, hs]; rfl
  by_cases hf0 : 0 < fs.length
  · go_wp2_with (go_at_call 57; refine (name_any _ _).mono ?_; rintro e w' ⟨rfl, rfl⟩; rw [hn])
    go_ret
    refine ⟨ret_bool ?_, hB1⟩
    have : (fs.length == 0) = false := by simp only [beq_eq_false_iff_ne]; omega
    simp only [gstmtB, stmtB, this]; simp [ho, hs, -List.beq_nil_eq]
  have HF0 : Hid ((fs.length == 0) = true) := by show _ = _; simp only [beq_iff_eq]; omega
  by_cases ht : t < 0
  · go_wp2_with (go_at_call 57; refine (name_any _ _).mono ?_; rintro e w' ⟨rfl, rfl⟩; rw [hn])
    all_goals go_ret
    all_goals refine ⟨ret_bool ?_, hB1⟩
    all_goals (simp only [gstmtB, stmtB, HF0.out]; simp [ho, hs, -List.beq_nil_eq] <;> omega)
  by_cases hl : l < 0
  · go_wp2_with (go_at_call 57; refine (name_any _ _).mono ?_; rintro e w' ⟨rfl, rfl⟩; rw [hn])
    all_goals go_ret
    all_goals refine ⟨ret_bool ?_, hB1⟩
    all_goals (simp only [gstmtB, stmtB, HF0.out]; simp [ho, hs, -List.beq_nil_eq] <;> omega)
  by_cases ht2 : 0 < t
  · go_wp2_with (go_at_call 57; refine (name_any _ _).mono ?_; rintro e w' ⟨rfl, rfl⟩; rw [hn])
    all_goals go_ret
    all_goals refine ⟨ret_bool ?_, hB1⟩
    all_goals (simp only [gstmtB, stmtB, HF0.out]; simp [ho, hs, -List.beq_nil_eq] <;> omega)
  by_cases hl2 : 0 < l
  · go_wp2_with (go_at_call 57; refine (name_any _ _).mono ?_; rintro e w' ⟨rfl, rfl⟩; rw [hn])
    all_goals go_ret
    all_goals refine ⟨ret_bool ?_, hB1⟩
    all_goals (simp only [gstmtB, stmtB, HF0.out]; simp [ho, hs, -List.beq_nil_eq] <;> omega)
  have hpos := oneB_pos ho
  have HL : Hid (lastKind es = (es[es.length - 1]'(by omega)).kind) := by
    show lastKind es = _
    simp only [lastKind]
    rw [List.getElem?_eq_getElem (by omega)]
  go_wp2_with (go_at_call 57; refine (name_any _ _).mono ?_; rintro e w' ⟨rfl, rfl⟩; rw [hn])
  refine (root_any _ es _ hpos (by omega) (HE.out.below hB1)).mono ?_
  rintro e w2 ⟨rfl, hb2⟩
  have hB2 := hB1.trans (hb2.mono hB1.size)
  generalize es[es.length - 1] = n at HL ⊢
  have hfd := run_kind n.kind n.val n.name
  have HH : Hid (0 ≤ t ∧ t ≤ 0 ∧ 0 ≤ l ∧ l ≤ 0) := ⟨by omega, by omega, by omega, by omega⟩
  clear x0 x1 x2 x3 x4 x5 hpos hle hlf ht hl ht2 hl2
  go_wp2_with fail
  go_ret
  refine ⟨ret_bool ?_, hB2⟩
  have hh := HH.out
  have e1 : t = 0 := by omega
  have e2 : l = 0 := by omega
  simp only [gstmtB, stmtB, HF0.out]; simp [ho, hs, -List.beq_nil_eq, HL.out, e1, e2]

end Go.Proofs.YtefnijmgdcfhiaaGreatDoor

namespace Go.Proofs.YtefnijmgdcfhiaaGreatDoor
open Go.RowKit
set_option linter.unusedVariables false
set_option linter.unusedSimpArgs false

set_option maxHeartbeats 1000000 in
theorem gstmtX (k : Int) (s : ByteArray) (ve vf : Value) (es fs : List Nd) (t l : Int) (w : World) (hk : k < 1 ∨ 8 < k) (he : Nodes w ve es) (hf : Nodes w vf fs) :
    Calls Tryz.prog 82 #[.agg #[.int .i64 k, .string s, ve, vf, .int .i64 t, .int .i64 l]] w fun e w' => e = .returned (.bool (gstmtB ⟨k, s, es, fs, t, l⟩)) ∧ Below w.heap.size w w' := by
  obtain ⟨ae, ce, rfl, -, -, -⟩ := he
  obtain ⟨af, cf, rfl, -, -, -⟩ := hf
  have hd : decide (1 ≤ k ∧ k ≤ 8) = false := by simp; omega
  have hs : gstmtB ⟨k, s, es, fs, t, l⟩ = false := by
    simp only [gstmtB, stmtB, hd, Bool.false_and]
  rw [hs]
  have h1 : (k == 1) = false := by simp; omega
  have h2 : (k == 2) = false := by simp; omega
  have h3 : (k == 3) = false := by simp; omega
  have HD : Hid (decide (1 ≤ k ∧ k ≤ 8) = false) := hd
  clear hs hd hk
  go_enter Tryz.func82, Tryz.ntmps82
  go_wp2_with (go_at_call 58; refine (in_any _ _ _ _).mono ?_; rintro e w' ⟨rfl, rfl⟩; rw [HD.out])
  go_ret
  exact ⟨rfl, (Below.refl _ _).alloc (Nat.le_refl _) _⟩

theorem gstmt_any (s : St) (ve vf : Value) (w : World) (hle : s.e.length ≤ 2000) (hlf : s.f.length ≤ 2000) (he : Nodes w ve s.e) (hf : Nodes w vf s.f) :
    Calls Tryz.prog 82 #[.agg #[.int .i64 s.kind, .string s.name, ve, vf, .int .i64 s.thn, .int .i64 s.els]] w fun e w' => e = .returned (.bool (gstmtB s)) ∧ Below w.heap.size w w' := by
  obtain ⟨k, s, es, fs, t, l⟩ := s
  by_cases hk : k < 1 ∨ 8 < k
  · exact gstmtX k s ve vf es fs t l w hk he hf
  have h9 : k = 1 ∨ k = 2 ∨ k = 3 ∨ k = 4 ∨ k = 5 ∨ k = 6 ∨ k = 7 ∨ k = 8 := by omega
  rcases h9 with rfl | rfl | rfl | rfl | rfl | rfl | rfl | rfl
  · exact gstmt1 s ve vf es fs t l w hle hlf he hf
  · exact gstmt2 s ve vf es fs t l w hle hlf he hf
  · exact gstmt3 s ve vf es fs t l w hle hlf he hf
  · exact gstmt4 s ve vf es fs t l w hle hlf he hf
  · exact gstmt5 s ve vf es fs t l w hle hlf he hf
  · exact gstmt6 s ve vf es fs t l w hle hlf he hf
  · exact gstmt7 s ve vf es fs t l w hle hlf he hf
  · exact gstmt8 s ve vf es fs t l w hle hlf he hf

end Go.Proofs.YtefnijmgdcfhiaaGreatDoor
