import Derived.Test.YtpdndlghjldhjaaGreatM23
namespace Go.Proofs.YtpdndlghjldhjaaGreat
set_option linter.unusedVariables false
set_option linter.unusedSimpArgs false
set_option maxRecDepth 100000
set_option maxHeartbeats 16000000
section
open Go.RowKit
set_option maxHeartbeats 4000000 in
theorem gstmt4 (k : Int) (hk : k = 4 ∨ k = 5 ∨ k = 6 ∨ k = 7 ∨ k = 8) (s : ByteArray) (ve vf : Value) (es fs : List Nd) (t l : Int) (w : World) (hle : es.length ≤ 2000) (hlf : fs.length ≤ 2000) (he : Nodes w ve es) (hf : Nodes w vf fs) :
  Calls Tryz.prog 102 #[.agg #[.int .i64 k, .string s, ve, vf, .int .i64 t, .int .i64 l]] w fun e w' => e = .returned (.bool (gstmtB ⟨k, s, es, fs, t, l⟩)) ∧ Below w.heap.size w w' := by
 have h3 : ∀ x : Int, x < 0 ∨ (¬ x < 0 ∧ 0 < x) ∨ (¬ x < 0 ∧ ¬ 0 < x ∧ x = 0) := fun x => by omega
 rcases hk with rfl | rfl | rfl | rfl | rfl
 all_goals
  have HE : Hid (Nodes w ve es) := he
  have HF : Hid (Nodes w vf fs) := hf
  obtain ⟨ae, ce, rfl, -, -, -⟩ := he
  obtain ⟨af, cf, rfl, -, -, -⟩ := hf
  have HD : Hid (∀ b : Bool, (decide (es.length ≤ 2000) && b) = b) := fun b => by simp [hle]
  have HDF : Hid (∀ b : Bool, (decide (fs.length ≤ 2000) && b) = b) := fun b => by simp [hlf]
  go_enter Tryz.func102, Tryz.ntmps102
  go_wp2_with (go_at_call 20; refine (in_any _ _ _ _).mono ?_; rintro e w' ⟨rfl, rfl⟩)
  refine (gexpr_any _ es _ (by omega) (HE.out.below ((Below.refl _ _).alloc (Nat.le_refl _) _))).mono ?_
  rintro e w1 ⟨rfl, hb1⟩
  rw [HD.out]
  simp only [World.size_alloc] at hb1
  have hB1 := one_below hb1
  obtain ⟨x0, x1, x2, x3, x4, x5⟩ := box6 hb1
  cases ho : oneB es
  ·go_wp2_with fail
   go_ret
   exact ⟨ret_bool (by simp only [gstmtB, stmtB]; simp [ho]), hB1⟩
  cases hn : nameB s
  case true =>
   go_wp2_with (go_at_call 87; refine (name_any _ _).mono ?_; rintro e w' ⟨rfl, rfl⟩; rw [hn])
   go_ret
   exact ⟨ret_bool (by simp only [gstmtB, stmtB]; simp [ho, nameB_empty hn, -List.beq_nil_eq]), hB1⟩
  cases hs : (s.toList == [])
  ·have hs1 : (s.toList != []) = true := by rw [bne, hs]; rfl
   go_wp2_with (go_at_call 87; refine (name_any _ _).mono ?_; rintro e w' ⟨rfl, rfl⟩; rw [hn])
   go_ret
   exact ⟨ret_bool (by simp only [gstmtB, stmtB]; simp [ho, hs, -List.beq_nil_eq]), hB1⟩
  have hs1 : (s.toList != []) = false := by rw [bne, hs]; rfl
  by_cases hf0 : 0 < fs.length
  ·go_wp2_with (go_at_call 87; refine (name_any _ _).mono ?_; rintro e w' ⟨rfl, rfl⟩; rw [hn])
   go_ret
   refine ⟨ret_bool ?_, hB1⟩
   have : (fs.length == 0) = false := by simp only [beq_eq_false_iff_ne]; omega
   simp only [gstmtB, stmtB, this]; simp [ho, hs, -List.beq_nil_eq]
  have HF0 : Hid ((fs.length == 0) = true) := by show _ = _; simp only [beq_iff_eq]; omega
  rcases h3 t with ht | ⟨ht, ht2⟩ | ⟨-, -, rfl⟩ <;> rcases h3 l with hl | ⟨hl, hl2⟩ | ⟨-, -, rfl⟩
  all_goals go_wp2_with (go_at_call 87; refine (name_any _ _).mono ?_; rintro e w' ⟨rfl, rfl⟩; rw [hn])
  all_goals first
   | (go_ret; exact ⟨ret_bool (by simp only [gstmtB, stmtB, HF0.out]; simp [ho, hs, -List.beq_nil_eq] <;> omega), hB1⟩)
   | (have hpos := oneB_pos ho
      refine (root_any _ es _ hpos (by omega) (HE.out.below hB1)).mono ?_
      rintro e w2 ⟨rfl, hb2⟩
      have hB2 := hB1.trans (hb2.mono hB1.size)
      have HL : Hid (lastKind es = (es[es.length - 1]'(by omega)).kind) := by
       show lastKind es = _
       simp only [lastKind]
       rw [List.getElem?_eq_getElem (by omega)]
      generalize es[es.length - 1] = n at HL ⊢
      have hfd := run_kind n.kind n.val n.name
      clear x0 x1 x2 x3 x4 x5 hpos
      go_wp2_with fail
      go_ret
      refine ⟨ret_bool ?_, hB2⟩
      simp only [gstmtB, stmtB, HF0.out]; simp [ho, hs, -List.beq_nil_eq, HL.out])
end
end Go.Proofs.YtpdndlghjldhjaaGreat
