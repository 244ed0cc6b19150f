import Derived.Test.YtijgcjeijcidfaaDoorV9
namespace Go.Proofs.YtijgcjeijcidfaaDoor
open Go.RowKit
set_option linter.unusedVariables false
set_option linter.unusedSimpArgs false

set_option maxHeartbeats 2000000 in
theorem gstmt4 (s : ByteArray) (ve vf : Value) (es fs : List Nd) (t l : Int) (w : World) (hle : es.length ≤ 2000) (hlf : fs.length ≤ 2000) (he : Nodes w ve es) (hf : Nodes w vf fs) :
    Calls Tryd.prog 25 #[.agg #[.int .i64 4, .string s, ve, vf, .int .i64 t, .int .i64 l]] w fun e w' => e = .returned (.bool (gstmtB ⟨4, s, es, fs, t, l⟩)) ∧ Below w.heap.size w w' := by
  have HE : Hid (Nodes w ve es) := he
  have HF : Hid (Nodes w vf fs) := hf
  obtain ⟨ae, ce, rfl, -, -, -⟩ := he
  obtain ⟨af, cf, rfl, -, -, -⟩ := hf
  have HD : Hid (∀ b : Bool, (decide (es.length ≤ 2000) && b) = b) := fun b => by simp [hle]
  have HDF : Hid (∀ b : Bool, (decide (fs.length ≤ 2000) && b) = b) := fun b => by simp [hlf]
  go_enter Tryd.func25, Tryd.ntmps25
  go_wp2_with (go_at_call 12; refine (in_any _ _ _ _).mono ?_; rintro e w' ⟨rfl, rfl⟩)
  refine (gexpr_any _ es _ (by omega) (HE.out.below ((Below.refl _ _).alloc (Nat.le_refl _) _))).mono ?_
  rintro e w1 ⟨rfl, hb1⟩
  rw [HD.out]
  simp only [World.size_alloc] at hb1
  have hB1 := one_below hb1
  obtain ⟨x0, x1, x2, x3, x4, x5⟩ := box6 hb1
  cases ho : oneB es
  · go_wp2_with fail
    go_ret
    exact ⟨ret_bool (by simp only [gstmtB, stmtB]; simp [ho]), hB1⟩
  cases hn : nameB s
  case true =>
    go_wp2_with (go_at_call 11; refine (name_any _ _).mono ?_; rintro e w' ⟨rfl, rfl⟩; rw [hn])
    go_ret
    exact ⟨ret_bool (by simp only [gstmtB, stmtB]; simp [ho, nameB_empty hn, -List.beq_nil_eq]), hB1⟩
  cases hs : (s.toList == [])
  · have hs1 : (s.toList != []) = true := by rw [bne, hs]; rfl
    go_wp2_with (go_at_call 11; refine (name_any _ _).mono ?_; rintro e w' ⟨rfl, rfl⟩; rw [hn])
    go_ret
    exact ⟨ret_bool (by simp only [gstmtB, stmtB]; simp [ho, hs, -List.beq_nil_eq]), hB1⟩
  have hs1 : (s.toList != []) = false := by rw [bne, hs]; rfl
  by_cases hf0 : 0 < fs.length
  · go_wp2_with (go_at_call 11; refine (name_any _ _).mono ?_; rintro e w' ⟨rfl, rfl⟩; rw [hn])
    go_ret
    refine ⟨ret_bool ?_, hB1⟩
    have : (fs.length == 0) = false := by simp only [beq_eq_false_iff_ne]; omega
    simp only [gstmtB, stmtB, this]; simp [ho, hs, -List.beq_nil_eq]
  have HF0 : Hid ((fs.length == 0) = true) := by show _ = _; simp only [beq_iff_eq]; omega
  by_cases ht : t < 0
  · go_wp2_with (go_at_call 11; refine (name_any _ _).mono ?_; rintro e w' ⟨rfl, rfl⟩; rw [hn])
    all_goals go_ret
    all_goals refine ⟨ret_bool ?_, hB1⟩
    all_goals (simp only [gstmtB, stmtB, HF0.out]; simp [ho, hs, -List.beq_nil_eq] <;> omega)
  by_cases hl : l < 0
  · go_wp2_with (go_at_call 11; refine (name_any _ _).mono ?_; rintro e w' ⟨rfl, rfl⟩; rw [hn])
    all_goals go_ret
    all_goals refine ⟨ret_bool ?_, hB1⟩
    all_goals (simp only [gstmtB, stmtB, HF0.out]; simp [ho, hs, -List.beq_nil_eq] <;> omega)
  go_wp2_with (go_at_call 11; refine (name_any _ _).mono ?_; rintro e w' ⟨rfl, rfl⟩; rw [hn])
  all_goals go_ret
  all_goals refine ⟨ret_bool ?_, hB1⟩
  all_goals have ht' : 0 ≤ t := by omega
  all_goals have hl' : 0 ≤ l := by omega
  all_goals (simp only [gstmtB, stmtB, HF0.out]; simp [ho, hs, -List.beq_nil_eq, ht', hl'])

set_option maxHeartbeats 2000000 in
theorem gstmt5 (s : ByteArray) (ve vf : Value) (es fs : List Nd) (t l : Int) (w : World) (hle : es.length ≤ 2000) (hlf : fs.length ≤ 2000) (he : Nodes w ve es) (hf : Nodes w vf fs) :
    Calls Tryd.prog 25 #[.agg #[.int .i64 5, .string s, ve, vf, .int .i64 t, .int .i64 l]] w fun e w' => e = .returned (.bool (gstmtB ⟨5, s, es, fs, t, l⟩)) ∧ Below w.heap.size w w' := by
  have HE : Hid (Nodes w ve es) := he
  have HF : Hid (Nodes w vf fs) := hf
  obtain ⟨ae, ce, rfl, -, -, -⟩ := he
  obtain ⟨af, cf, rfl, -, -, -⟩ := hf
  have HD : Hid (∀ b : Bool, (decide (es.length ≤ 2000) && b) = b) := fun b => by simp [hle]
  have HDF : Hid (∀ b : Bool, (decide (fs.length ≤ 2000) && b) = b) := fun b => by simp [hlf]
  go_enter Tryd.func25, Tryd.ntmps25
  go_wp2_with (go_at_call 12; refine (in_any _ _ _ _).mono ?_; rintro e w' ⟨rfl, rfl⟩)
  refine (gexpr_any _ es _ (by omega) (HE.out.below ((Below.refl _ _).alloc (Nat.le_refl _) _))).mono ?_
  rintro e w1 ⟨rfl, hb1⟩
  rw [HD.out]
  simp only [World.size_alloc] at hb1
  have hB1 := one_below hb1
  obtain ⟨x0, x1, x2, x3, x4, x5⟩ := box6 hb1
  cases ho : oneB es
  · go_wp2_with fail
    go_ret
    exact ⟨ret_bool (by simp only [gstmtB, stmtB]; simp [ho]), hB1⟩
  cases hn : nameB s
  case true =>
    go_wp2_with (go_at_call 11; refine (name_any _ _).mono ?_; rintro e w' ⟨rfl, rfl⟩; rw [hn])
    go_ret
    exact ⟨ret_bool (by simp only [gstmtB, stmtB]; simp [ho, nameB_empty hn, -List.beq_nil_eq]), hB1⟩
  cases hs : (s.toList == [])
  · have hs1 : (s.toList != []) = true := by rw [bne, hs]; rfl
    go_wp2_with (go_at_call 11; refine (name_any _ _).mono ?_; rintro e w' ⟨rfl, rfl⟩; rw [hn])
    go_ret
    exact ⟨ret_bool (by simp only [gstmtB, stmtB]; simp [ho, hs, -List.beq_nil_eq]), hB1⟩
  have hs1 : (s.toList != []) = false := by rw [bne, hs]; rfl
  by_cases hf0 : 0 < fs.length
  · go_wp2_with (go_at_call 11; refine (name_any _ _).mono ?_; rintro e w' ⟨rfl, rfl⟩; rw [hn])
    go_ret
    refine ⟨ret_bool ?_, hB1⟩
    have : (fs.length == 0) = false := by simp only [beq_eq_false_iff_ne]; omega
    simp only [gstmtB, stmtB, this]; simp [ho, hs, -List.beq_nil_eq]
  have HF0 : Hid ((fs.length == 0) = true) := by show _ = _; simp only [beq_iff_eq]; omega
  by_cases ht : t < 0
  · go_wp2_with (go_at_call 11; refine (name_any _ _).mono ?_; rintro e w' ⟨rfl, rfl⟩; rw [hn])
    all_goals go_ret
    all_goals refine ⟨ret_bool ?_, hB1⟩
    all_goals (simp only [gstmtB, stmtB, HF0.out]; simp [ho, hs, -List.beq_nil_eq] <;> omega)
  by_cases hl : l < 0
  · go_wp2_with (go_at_call 11; refine (name_any _ _).mono ?_; rintro e w' ⟨rfl, rfl⟩; rw [hn])
    all_goals go_ret
    all_goals refine ⟨ret_bool ?_, hB1⟩
    all_goals (simp only [gstmtB, stmtB, HF0.out]; simp [ho, hs, -List.beq_nil_eq] <;> omega)
  by_cases hl2 : 0 < l
  · go_wp2_with (go_at_call 11; refine (name_any _ _).mono ?_; rintro e w' ⟨rfl, rfl⟩; rw [hn])
    all_goals go_ret
    all_goals refine ⟨ret_bool ?_, hB1⟩
    all_goals (simp only [gstmtB, stmtB, HF0.out]; simp [ho, hs, -List.beq_nil_eq] <;> omega)
  go_wp2_with (go_at_call 11; refine (name_any _ _).mono ?_; rintro e w' ⟨rfl, rfl⟩; rw [hn])
  all_goals go_ret
  all_goals refine ⟨ret_bool ?_, hB1⟩
  all_goals have ht' : 0 ≤ t := by omega
  all_goals have hl' : 0 ≤ l := by omega
  all_goals have e2 : l = 0 := by omega
  all_goals (simp only [gstmtB, stmtB, HF0.out]; simp [ho, hs, -List.beq_nil_eq, ht', hl', e2])

set_option maxHeartbeats 2000000 in
theorem gstmt6 (s : ByteArray) (ve vf : Value) (es fs : List Nd) (t l : Int) (w : World) (hle : es.length ≤ 2000) (hlf : fs.length ≤ 2000) (he : Nodes w ve es) (hf : Nodes w vf fs) :
    Calls Tryd.prog 25 #[.agg #[.int .i64 6, .string s, ve, vf, .int .i64 t, .int .i64 l]] w fun e w' => e = .returned (.bool (gstmtB ⟨6, s, es, fs, t, l⟩)) ∧ Below w.heap.size w w' := by
  have HE : Hid (Nodes w ve es) := he
  have HF : Hid (Nodes w vf fs) := hf
  obtain ⟨ae, ce, rfl, -, -, -⟩ := he
  obtain ⟨af, cf, rfl, -, -, -⟩ := hf
  have HD : Hid (∀ b : Bool, (decide (es.length ≤ 2000) && b) = b) := fun b => by simp [hle]
  have HDF : Hid (∀ b : Bool, (decide (fs.length ≤ 2000) && b) = b) := fun b => by simp [hlf]
  go_enter Tryd.func25, Tryd.ntmps25
  go_wp2_with (go_at_call 12; refine (in_any _ _ _ _).mono ?_; rintro e w' ⟨rfl, rfl⟩)
  refine (gexpr_any _ es _ (by omega) (HE.out.below ((Below.refl _ _).alloc (Nat.le_refl _) _))).mono ?_
  rintro e w1 ⟨rfl, hb1⟩
  rw [HD.out]
  simp only [World.size_alloc] at hb1
  have hB1 := one_below hb1
  obtain ⟨x0, x1, x2, x3, x4, x5⟩ := box6 hb1
  cases ho : oneB es
  · go_wp2_with fail
    go_ret
    exact ⟨ret_bool (by simp only [gstmtB, stmtB]; simp [ho]), hB1⟩
  cases hn : nameB s
  case true =>
    go_wp2_with (go_at_call 11; refine (name_any _ _).mono ?_; rintro e w' ⟨rfl, rfl⟩; rw [hn])
    go_ret
    exact ⟨ret_bool (by simp only [gstmtB, stmtB]; simp [ho, nameB_empty hn, -List.beq_nil_eq]), hB1⟩
  cases hs : (s.toList == [])
  · have hs1 : (s.toList != []) = true := by rw [bne, hs]; rfl
    go_wp2_with (go_at_call 11; refine (name_any _ _).mono ?_; rintro e w' ⟨rfl, rfl⟩; rw [hn])
    go_ret
    exact ⟨ret_bool (by simp only [gstmtB, stmtB]; simp [ho, hs, -List.beq_nil_eq]), hB1⟩
  have hs1 : (s.toList != []) = false := by rw [bne, hs]; rfl
  by_cases hf0 : 0 < fs.length
  · go_wp2_with (go_at_call 11; refine (name_any _ _).mono ?_; rintro e w' ⟨rfl, rfl⟩; rw [hn])
    go_ret
    refine ⟨ret_bool ?_, hB1⟩
    have : (fs.length == 0) = false := by simp only [beq_eq_false_iff_ne]; omega
    simp only [gstmtB, stmtB, this]; simp [ho, hs, -List.beq_nil_eq]
  have HF0 : Hid ((fs.length == 0) = true) := by show _ = _; simp only [beq_iff_eq]; omega
  by_cases ht : t < 0
  · go_wp2_with (go_at_call 11; refine (name_any _ _).mono ?_; rintro e w' ⟨rfl, rfl⟩; rw [hn])
    all_goals go_ret
    all_goals refine ⟨ret_bool ?_, hB1⟩
    all_goals (simp only [gstmtB, stmtB, HF0.out]; simp [ho, hs, -List.beq_nil_eq] <;> omega)
  by_cases hl : l < 0
  · go_wp2_with (go_at_call 11; refine (name_any _ _).mono ?_; rintro e w' ⟨rfl, rfl⟩; rw [hn])
    all_goals go_ret
    all_goals refine ⟨ret_bool ?_, hB1⟩
    all_goals (simp only [gstmtB, stmtB, HF0.out]; simp [ho, hs, -List.beq_nil_eq] <;> omega)
  by_cases ht2 : 0 < t
  · go_wp2_with (go_at_call 11; refine (name_any _ _).mono ?_; rintro e w' ⟨rfl, rfl⟩; rw [hn])
    all_goals go_ret
    all_goals refine ⟨ret_bool ?_, hB1⟩
    all_goals (simp only [gstmtB, stmtB, HF0.out]; simp [ho, hs, -List.beq_nil_eq] <;> omega)
  by_cases hl2 : 0 < l
  · go_wp2_with (go_at_call 11; refine (name_any _ _).mono ?_; rintro e w' ⟨rfl, rfl⟩; rw [hn])
    all_goals go_ret
    all_goals refine ⟨ret_bool ?_, hB1⟩
    all_goals (simp only [gstmtB, stmtB, HF0.out]; simp [ho, hs, -List.beq_nil_eq] <;> omega)
  go_wp2_with (go_at_call 11; refine (name_any _ _).mono ?_; rintro e w' ⟨rfl, rfl⟩; rw [hn])
  all_goals go_ret
  all_goals refine ⟨ret_bool ?_, hB1⟩
  all_goals have ht' : 0 ≤ t := by omega
  all_goals have hl' : 0 ≤ l := by omega
  all_goals have e1 : t = 0 := by omega
  all_goals have e2 : l = 0 := by omega
  all_goals (simp only [gstmtB, stmtB, HF0.out]; simp [ho, hs, -List.beq_nil_eq, ht', hl', e1, e2])

end Go.Proofs.YtijgcjeijcidfaaDoor
