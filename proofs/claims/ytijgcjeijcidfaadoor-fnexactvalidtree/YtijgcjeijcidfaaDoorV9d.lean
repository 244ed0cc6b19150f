import Derived.Test.YtijgcjeijcidfaaDoorV9a
import Derived.Test.YtijgcjeijcidfaaDoorV9b
import Derived.Test.YtijgcjeijcidfaaDoorV9c
namespace Go.Proofs.YtijgcjeijcidfaaDoor
open Go.RowKit
set_option linter.unusedVariables false
set_option linter.unusedSimpArgs false

set_option maxHeartbeats 1000000 in
theorem gstmtX (k : Int) (s : ByteArray) (ve vf : Value) (es fs : List Nd) (t l : Int) (w : World) (hk : k < 1 ∨ 8 < k) (he : Nodes w ve es) (hf : Nodes w vf fs) :
    Calls Tryd.prog 25 #[.agg #[.int .i64 k, .string s, ve, vf, .int .i64 t, .int .i64 l]] w fun e w' => e = .returned (.bool (gstmtB ⟨k, s, es, fs, t, l⟩)) ∧ Below w.heap.size w w' := by
  obtain ⟨ae, ce, rfl, -, -, -⟩ := he
  obtain ⟨af, cf, rfl, -, -, -⟩ := hf
  have hd : decide (1 ≤ k ∧ k ≤ 8) = false := by simp; omega
  have hs : gstmtB ⟨k, s, es, fs, t, l⟩ = false := by
    simp only [gstmtB, stmtB, hd, Bool.false_and]
  rw [hs]
  have h1 : (k == 1) = false := by simp; omega
  have h2 : (k == 2) = false := by simp; omega
  have h3 : (k == 3) = false := by simp; omega
  have HD : Hid (decide (1 ≤ k ∧ k ≤ 8) = false) := hd
  clear hs hd hk
  go_enter Tryd.func25, Tryd.ntmps25
  go_wp2_with (go_at_call 12; refine (in_any _ _ _ _).mono ?_; rintro e w' ⟨rfl, rfl⟩; rw [HD.out])
  go_ret
  exact ⟨rfl, (Below.refl _ _).alloc (Nat.le_refl _) _⟩

theorem gstmt_any (s : St) (ve vf : Value) (w : World) (hle : s.e.length ≤ 2000) (hlf : s.f.length ≤ 2000) (he : Nodes w ve s.e) (hf : Nodes w vf s.f) :
    Calls Tryd.prog 25 #[.agg #[.int .i64 s.kind, .string s.name, ve, vf, .int .i64 s.thn, .int .i64 s.els]] w fun e w' => e = .returned (.bool (gstmtB s)) ∧ Below w.heap.size w w' := by
  obtain ⟨k, s, es, fs, t, l⟩ := s
  by_cases hk : k < 1 ∨ 8 < k
  · exact gstmtX k s ve vf es fs t l w hk he hf
  have h9 : k = 1 ∨ k = 2 ∨ k = 3 ∨ k = 4 ∨ k = 5 ∨ k = 6 ∨ k = 7 ∨ k = 8 := by omega
  rcases h9 with rfl | rfl | rfl | rfl | rfl | rfl | rfl | rfl
  · exact gstmt1 s ve vf es fs t l w hle hlf he hf
  · exact gstmt2 s ve vf es fs t l w hle hlf he hf
  · exact gstmt3 s ve vf es fs t l w hle hlf he hf
  · exact gstmt4 s ve vf es fs t l w hle hlf he hf
  · exact gstmt5 s ve vf es fs t l w hle hlf he hf
  · exact gstmt6 s ve vf es fs t l w hle hlf he hf
  · exact gstmt7 s ve vf es fs t l w hle hlf he hf
  · exact gstmt8 s ve vf es fs t l w hle hlf he hf

end Go.Proofs.YtijgcjeijcidfaaDoor
