import Derived.Test.YtabjcodpagjbjaaP00
import Derived.WalkKit
import Derived.WalkSpells
import Derived.ProofKit
import Derived.OpenShut
namespace Go.Proofs.Ytabjcodpagjbjaa
open Go.RowKit
set_option linter.unusedVariables false
set_option linter.unusedSimpArgs false

def AluIs (op a b r : Int) : Prop := (0 ≤ r ∧ r ≤ 4294967295) ∧ (∀ w, Calls Try.prog 77 #[.int .i64 op, .int .u32 a, .int .u32 b] w fun e w' => e = .returned (.int .u32 r) ∧ w' = w) ∧
  (∀ w, Calls Try.prog 82 #[.int .i64 op, .int .u32 a, .int .u32 b] w fun e w' => e = .returned (.int .u32 r) ∧ w' = w)
def TakIs (op a b : Int) (t : Bool) : Prop := (∀ w, Calls Try.prog 72 #[.int .i64 op, .int .u32 a, .int .u32 b] w fun e w' => e = .returned (.bool t) ∧ w' = w) ∧
  (∀ w, Calls Try.prog 81 #[.int .i64 op, .int .u32 a, .int .u32 b] w fun e w' => e = .returned (.bool t) ∧ w' = w)
theorem m32_bd (x : Int) : 0 ≤ x % 4294967296 ∧ x % 4294967296 ≤ 4294967295 := by omega
theorem ret_u {k : IntKind} {a b : Int} (h : a = b) : Ending.returned (.int k a) = .returned (.int k b) := by rw [h]


theorem bits_u32 (op : BinOp) (a b : Int) : 0 ≤ bits op .u32 a b ∧ bits op .u32 a b ≤ 4294967295 := by
  have h := wf_bits op .u32 a b
  have := bounds_u32 h
  omega
theorem div_bd (a : Int) (n : Nat) (ha : 0 ≤ a ∧ a ≤ 4294967295) : 0 ≤ a / 2 ^ n ∧ a / 2 ^ n ≤ 4294967295 := by
  have hp : (0 : Int) < 2 ^ n := Int.pow_pos (by decide)
  refine ⟨Int.ediv_nonneg ha.1 (Int.le_of_lt hp), ?_⟩
  exact Int.le_trans (Int.ediv_le_self _ ha.1) ha.2


set_option maxHeartbeats 400000 in
theorem alu12 (a b : Int) (ha : 0 ≤ a ∧ a ≤ 4294967295) (hb : 0 ≤ b ∧ b ≤ 4294967295) : ∃ r, AluIs 12 a b r := by
  refine ⟨(a + b) % 4294967296, m32_bd _, fun w => ?_, fun w => ?_⟩
  ·
    go_enter Try.func77, Try.ntmps77
    go_wp2
    go_ret
    exact ⟨rfl, rfl⟩
  ·
    go_enter Try.func82, Try.ntmps82
    go_wp2
    go_ret
    exact ⟨rfl, rfl⟩


set_option maxHeartbeats 400000 in
theorem alu15 (a b : Int) (ha : 0 ≤ a ∧ a ≤ 4294967295) (hb : 0 ≤ b ∧ b ≤ 4294967295) : ∃ r, AluIs 15 a b r := by
  refine ⟨bits .xor .u32 a b, bits_u32 _ _ _, fun w => ?_, fun w => ?_⟩
  ·
    go_enter Try.func77, Try.ntmps77
    go_wp2
    go_ret
    exact ⟨rfl, rfl⟩
  ·
    go_enter Try.func82, Try.ntmps82
    go_wp2
    go_ret
    exact ⟨rfl, rfl⟩


set_option maxHeartbeats 400000 in
theorem alu16 (a b : Int) (ha : 0 ≤ a ∧ a ≤ 4294967295) (hb : 0 ≤ b ∧ b ≤ 4294967295) : ∃ r, AluIs 16 a b r := by
  refine ⟨bits .or .u32 a b, bits_u32 _ _ _, fun w => ?_, fun w => ?_⟩
  ·
    go_enter Try.func77, Try.ntmps77
    go_wp2
    go_ret
    exact ⟨rfl, rfl⟩
  ·
    go_enter Try.func82, Try.ntmps82
    go_wp2
    go_ret
    exact ⟨rfl, rfl⟩


set_option maxHeartbeats 400000 in
theorem alu17 (a b : Int) (ha : 0 ≤ a ∧ a ≤ 4294967295) (hb : 0 ≤ b ∧ b ≤ 4294967295) : ∃ r, AluIs 17 a b r := by
  refine ⟨bits .and .u32 a b, bits_u32 _ _ _, fun w => ?_, fun w => ?_⟩
  ·
    go_enter Try.func77, Try.ntmps77
    go_wp2
    go_ret
    exact ⟨rfl, rfl⟩
  ·
    go_enter Try.func82, Try.ntmps82
    go_wp2
    go_ret
    exact ⟨rfl, rfl⟩


set_option maxHeartbeats 400000 in
theorem alu18 (a b : Int) (ha : 0 ≤ a ∧ a ≤ 4294967295) (hb : 0 ≤ b ∧ b ≤ 4294967295) : ∃ r, AluIs 18 a b r := by
  refine ⟨a * 2 ^ (b % 32).toNat % 4294967296, m32_bd _, fun w => ?_, fun w => ?_⟩
  ·
    go_enter Try.func77, Try.ntmps77
    go_wp2
    go_ret
    exact ⟨rfl, rfl⟩
  ·
    go_enter Try.func82, Try.ntmps82
    go_wp2
    go_ret
    exact ⟨rfl, rfl⟩


set_option maxHeartbeats 400000 in
theorem alu19 (a b : Int) (ha : 0 ≤ a ∧ a ≤ 4294967295) (hb : 0 ≤ b ∧ b ≤ 4294967295) : ∃ r, AluIs 19 a b r := by
  refine ⟨a / 2 ^ (b % 32).toNat, div_bd a _ ha, fun w => ?_, fun w => ?_⟩
  ·
    go_enter Try.func77, Try.ntmps77
    go_wp2
    go_ret
    exact ⟨rfl, rfl⟩
  ·
    go_enter Try.func82, Try.ntmps82
    go_wp2
    go_ret
    exact ⟨rfl, rfl⟩


set_option maxHeartbeats 400000 in
theorem alu20 (a b : Int) (ha : 0 ≤ a ∧ a ≤ 4294967295) (hb : 0 ≤ b ∧ b ≤ 4294967295) : ∃ r, AluIs 20 a b r := by
  refine ⟨wrap32 a / 2 ^ (b % 32).toNat % 4294967296, m32_bd _, fun w => ?_, fun w => ?_⟩
  ·
    go_enter Try.func77, Try.ntmps77
    go_wp2
    go_ret
    exact ⟨rfl, rfl⟩
  ·
    go_enter Try.func82, Try.ntmps82
    go_wp2
    go_ret
    exact ⟨rfl, rfl⟩


set_option maxHeartbeats 400000 in
theorem alu21 (a b : Int) (ha : 0 ≤ a ∧ a ≤ 4294967295) (hb : 0 ≤ b ∧ b ≤ 4294967295) : ∃ r, AluIs 21 a b r := by
  refine ⟨(a + b) % 4294967296, m32_bd _, fun w => ?_, fun w => ?_⟩
  ·
    go_enter Try.func77, Try.ntmps77
    go_wp2
    go_ret
    exact ⟨rfl, rfl⟩
  ·
    go_enter Try.func82, Try.ntmps82
    go_wp2
    go_ret
    exact ⟨rfl, rfl⟩


set_option maxHeartbeats 400000 in
theorem alu22 (a b : Int) (ha : 0 ≤ a ∧ a ≤ 4294967295) (hb : 0 ≤ b ∧ b ≤ 4294967295) : ∃ r, AluIs 22 a b r := by
  refine ⟨(a - b) % 4294967296, m32_bd _, fun w => ?_, fun w => ?_⟩
  ·
    go_enter Try.func77, Try.ntmps77
    go_wp2
    go_ret
    exact ⟨rfl, rfl⟩
  ·
    go_enter Try.func82, Try.ntmps82
    go_wp2
    go_ret
    exact ⟨rfl, rfl⟩


set_option maxHeartbeats 400000 in
theorem alu23 (a b : Int) (ha : 0 ≤ a ∧ a ≤ 4294967295) (hb : 0 ≤ b ∧ b ≤ 4294967295) : ∃ r, AluIs 23 a b r := by
  refine ⟨a * 2 ^ (b % 32).toNat % 4294967296, m32_bd _, fun w => ?_, fun w => ?_⟩
  ·
    go_enter Try.func77, Try.ntmps77
    go_wp2
    go_ret
    exact ⟨rfl, rfl⟩
  ·
    go_enter Try.func82, Try.ntmps82
    go_wp2
    go_ret
    exact ⟨rfl, rfl⟩


set_option maxHeartbeats 400000 in
theorem alu26 (a b : Int) (ha : 0 ≤ a ∧ a ≤ 4294967295) (hb : 0 ≤ b ∧ b ≤ 4294967295) : ∃ r, AluIs 26 a b r := by
  refine ⟨bits .xor .u32 a b, bits_u32 _ _ _, fun w => ?_, fun w => ?_⟩
  ·
    go_enter Try.func77, Try.ntmps77
    go_wp2
    go_ret
    exact ⟨rfl, rfl⟩
  ·
    go_enter Try.func82, Try.ntmps82
    go_wp2
    go_ret
    exact ⟨rfl, rfl⟩


set_option maxHeartbeats 400000 in
theorem alu27 (a b : Int) (ha : 0 ≤ a ∧ a ≤ 4294967295) (hb : 0 ≤ b ∧ b ≤ 4294967295) : ∃ r, AluIs 27 a b r := by
  refine ⟨a / 2 ^ (b % 32).toNat, div_bd a _ ha, fun w => ?_, fun w => ?_⟩
  ·
    go_enter Try.func77, Try.ntmps77
    go_wp2
    go_ret
    exact ⟨rfl, rfl⟩
  ·
    go_enter Try.func82, Try.ntmps82
    go_wp2
    go_ret
    exact ⟨rfl, rfl⟩


set_option maxHeartbeats 400000 in
theorem alu28 (a b : Int) (ha : 0 ≤ a ∧ a ≤ 4294967295) (hb : 0 ≤ b ∧ b ≤ 4294967295) : ∃ r, AluIs 28 a b r := by
  refine ⟨wrap32 a / 2 ^ (b % 32).toNat % 4294967296, m32_bd _, fun w => ?_, fun w => ?_⟩
  ·
    go_enter Try.func77, Try.ntmps77
    go_wp2
    go_ret
    exact ⟨rfl, rfl⟩
  ·
    go_enter Try.func82, Try.ntmps82
    go_wp2
    go_ret
    exact ⟨rfl, rfl⟩


set_option maxHeartbeats 400000 in
theorem alu29 (a b : Int) (ha : 0 ≤ a ∧ a ≤ 4294967295) (hb : 0 ≤ b ∧ b ≤ 4294967295) : ∃ r, AluIs 29 a b r := by
  refine ⟨bits .or .u32 a b, bits_u32 _ _ _, fun w => ?_, fun w => ?_⟩
  ·
    go_enter Try.func77, Try.ntmps77
    go_wp2
    go_ret
    exact ⟨rfl, rfl⟩
  ·
    go_enter Try.func82, Try.ntmps82
    go_wp2
    go_ret
    exact ⟨rfl, rfl⟩


set_option maxHeartbeats 400000 in
theorem alu30 (a b : Int) (ha : 0 ≤ a ∧ a ≤ 4294967295) (hb : 0 ≤ b ∧ b ≤ 4294967295) : ∃ r, AluIs 30 a b r := by
  refine ⟨bits .and .u32 a b, bits_u32 _ _ _, fun w => ?_, fun w => ?_⟩
  ·
    go_enter Try.func77, Try.ntmps77
    go_wp2
    go_ret
    exact ⟨rfl, rfl⟩
  ·
    go_enter Try.func82, Try.ntmps82
    go_wp2
    go_ret
    exact ⟨rfl, rfl⟩


set_option maxHeartbeats 400000 in
theorem alu31 (a b : Int) (ha : 0 ≤ a ∧ a ≤ 4294967295) (hb : 0 ≤ b ∧ b ≤ 4294967295) : ∃ r, AluIs 31 a b r := by
  refine ⟨a * b % 4294967296, m32_bd _, fun w => ?_, fun w => ?_⟩
  ·
    go_enter Try.func77, Try.ntmps77
    go_wp2
    go_ret
    exact ⟨rfl, rfl⟩
  ·
    go_enter Try.func82, Try.ntmps82
    go_wp2
    go_ret
    exact ⟨rfl, rfl⟩


set_option maxHeartbeats 400000 in
theorem alu13 (a b : Int) (ha : 0 ≤ a ∧ a ≤ 4294967295) (hb : 0 ≤ b ∧ b ≤ 4294967295) : ∃ r, AluIs 13 a b r := by
  by_cases h : wrap32 a < wrap32 b
  · refine ⟨1, by omega, fun w => ?_, fun w => ?_⟩
    ·
      go_enter Try.func77, Try.ntmps77
      go_wp2
      go_ret
      exact ⟨rfl, rfl⟩
    ·
      go_enter Try.func82, Try.ntmps82
      go_wp2
      go_ret
      exact ⟨rfl, rfl⟩
  · refine ⟨0, by omega, fun w => ?_, fun w => ?_⟩
    ·
      go_enter Try.func77, Try.ntmps77
      go_wp2
      go_ret
      exact ⟨rfl, rfl⟩
    ·
      go_enter Try.func82, Try.ntmps82
      go_wp2
      go_ret
      exact ⟨rfl, rfl⟩


set_option maxHeartbeats 400000 in
theorem alu24 (a b : Int) (ha : 0 ≤ a ∧ a ≤ 4294967295) (hb : 0 ≤ b ∧ b ≤ 4294967295) : ∃ r, AluIs 24 a b r := by
  by_cases h : wrap32 a < wrap32 b
  · refine ⟨1, by omega, fun w => ?_, fun w => ?_⟩
    ·
      go_enter Try.func77, Try.ntmps77
      go_wp2
      go_ret
      exact ⟨rfl, rfl⟩
    ·
      go_enter Try.func82, Try.ntmps82
      go_wp2
      go_ret
      exact ⟨rfl, rfl⟩
  · refine ⟨0, by omega, fun w => ?_, fun w => ?_⟩
    ·
      go_enter Try.func77, Try.ntmps77
      go_wp2
      go_ret
      exact ⟨rfl, rfl⟩
    ·
      go_enter Try.func82, Try.ntmps82
      go_wp2
      go_ret
      exact ⟨rfl, rfl⟩


set_option maxHeartbeats 400000 in
theorem alu14 (a b : Int) (ha : 0 ≤ a ∧ a ≤ 4294967295) (hb : 0 ≤ b ∧ b ≤ 4294967295) : ∃ r, AluIs 14 a b r := by
  by_cases h : a < b
  · refine ⟨1, by omega, fun w => ?_, fun w => ?_⟩
    ·
      go_enter Try.func77, Try.ntmps77
      go_wp2
      go_ret
      exact ⟨rfl, rfl⟩
    ·
      go_enter Try.func82, Try.ntmps82
      go_wp2
      go_ret
      exact ⟨rfl, rfl⟩
  · refine ⟨0, by omega, fun w => ?_, fun w => ?_⟩
    ·
      go_enter Try.func77, Try.ntmps77
      go_wp2
      go_ret
      exact ⟨rfl, rfl⟩
    ·
      go_enter Try.func82, Try.ntmps82
      go_wp2
      go_ret
      exact ⟨rfl, rfl⟩


set_option maxHeartbeats 400000 in
theorem alu25 (a b : Int) (ha : 0 ≤ a ∧ a ≤ 4294967295) (hb : 0 ≤ b ∧ b ≤ 4294967295) : ∃ r, AluIs 25 a b r := by
  by_cases h : a < b
  · refine ⟨1, by omega, fun w => ?_, fun w => ?_⟩
    ·
      go_enter Try.func77, Try.ntmps77
      go_wp2
      go_ret
      exact ⟨rfl, rfl⟩
    ·
      go_enter Try.func82, Try.ntmps82
      go_wp2
      go_ret
      exact ⟨rfl, rfl⟩
  · refine ⟨0, by omega, fun w => ?_, fun w => ?_⟩
    ·
      go_enter Try.func77, Try.ntmps77
      go_wp2
      go_ret
      exact ⟨rfl, rfl⟩
    ·
      go_enter Try.func82, Try.ntmps82
      go_wp2
      go_ret
      exact ⟨rfl, rfl⟩


theorem w3264 (a : Int) : wrap32 (wrap64 (wrap32 a)) = wrap32 a := by unfold wrap32 wrap64; omega
theorem w646 (x : Int) : wrap64 (wrap32 (wrap64 x)) % 4294967296 = wrap32 x % 4294967296 := by unfold wrap32 wrap64; omega
theorem w32w (a : Int) : wrap32 (wrap32 a) = wrap32 a := by unfold wrap32; omega
theorem w64w (a : Int) : wrap64 (wrap32 a) = wrap32 a := by unfold wrap32 wrap64; omega
theorem w32_bd (a : Int) : -2147483648 ≤ wrap32 a ∧ wrap32 a ≤ 2147483647 := by unfold wrap32; omega



set_option maxHeartbeats 1000000 in
theorem alu32 (a b : Int) (ha : 0 ≤ a ∧ a ≤ 4294967295) (hb : 0 ≤ b ∧ b ≤ 4294967295) : ∃ r, AluIs 32 a b r := by
  have e1 := w32w a
  have e2 := w32w b
  have e3 := w64w a
  have e4 := w64w b
  by_cases h : wrap32 b = 0
  · refine ⟨4294967295, by first | omega | exact m32_bd _, fun w => ?_, fun w => ?_⟩
    · go_enter Try.func77, Try.ntmps77
      go_wp2
      go_ret
      exact ⟨rfl, rfl⟩
    · go_enter Try.func82, Try.ntmps82
      go_wp2
      go_ret
      exact ⟨by first | rfl | exact ret_u (by first | rfl | (rw [w646]; done)), rfl⟩
  · refine ⟨wrap32 ((wrap32 a).tdiv (wrap32 b)) % 4294967296, m32_bd _, fun w => ?_, fun w => ?_⟩
    · go_enter Try.func77, Try.ntmps77
      go_wp2
      go_ret
      exact ⟨rfl, rfl⟩
    · go_enter Try.func82, Try.ntmps82
      go_wp2
      go_ret
      exact ⟨by first | rfl | exact ret_u (by first | rfl | (rw [w646]; done)), rfl⟩



set_option maxHeartbeats 1000000 in
theorem alu33 (a b : Int) (ha : 0 ≤ a ∧ a ≤ 4294967295) (hb : 0 ≤ b ∧ b ≤ 4294967295) : ∃ r, AluIs 33 a b r := by
  have e1 := w32w a
  have e2 := w32w b
  have e3 := w64w a
  have e4 := w64w b
  by_cases h : wrap32 b = 0
  · refine ⟨wrap32 a % 4294967296, by first | omega | exact m32_bd _, fun w => ?_, fun w => ?_⟩
    · go_enter Try.func77, Try.ntmps77
      go_wp2
      go_ret
      exact ⟨rfl, rfl⟩
    · go_enter Try.func82, Try.ntmps82
      go_wp2
      go_ret
      exact ⟨by first | rfl | exact ret_u (by first | rfl | (rw [w646]; done)), rfl⟩
  · refine ⟨(wrap32 a).tmod (wrap32 b) % 4294967296, m32_bd _, fun w => ?_, fun w => ?_⟩
    · go_enter Try.func77, Try.ntmps77
      go_wp2
      go_ret
      exact ⟨rfl, rfl⟩
    · go_enter Try.func82, Try.ntmps82
      go_wp2
      go_ret
      exact ⟨by first | rfl | exact ret_u (by first | rfl | (rw [w646]; done)), rfl⟩


set_option maxHeartbeats 400000 in
theorem tak4 (a b : Int) (ha : 0 ≤ a ∧ a ≤ 4294967295) (hb : 0 ≤ b ∧ b ≤ 4294967295) : ∃ t, TakIs 4 a b t := by
  by_cases h : a = b
  · refine ⟨true, fun w => ?_, fun w => ?_⟩
    ·
      go_enter Try.func72, Try.ntmps72
      go_wp2
      go_ret
      exact ⟨ret_b (by first | rfl | (simp; done) | (simp; omega)), rfl⟩
    ·
      go_enter Try.func81, Try.ntmps81
      go_wp2
      go_ret
      exact ⟨ret_b (by first | rfl | (simp; done) | (simp; omega)), rfl⟩
  · refine ⟨false, fun w => ?_, fun w => ?_⟩
    ·
      go_enter Try.func72, Try.ntmps72
      go_wp2
      go_ret
      exact ⟨ret_b (by first | rfl | (simp; done) | (simp; omega)), rfl⟩
    ·
      go_enter Try.func81, Try.ntmps81
      go_wp2
      go_ret
      exact ⟨ret_b (by first | rfl | (simp; done) | (simp; omega)), rfl⟩


set_option maxHeartbeats 400000 in
theorem tak5 (a b : Int) (ha : 0 ≤ a ∧ a ≤ 4294967295) (hb : 0 ≤ b ∧ b ≤ 4294967295) : ∃ t, TakIs 5 a b t := by
  by_cases h : ¬ a = b
  · refine ⟨true, fun w => ?_, fun w => ?_⟩
    ·
      go_enter Try.func72, Try.ntmps72
      go_wp2
      go_ret
      exact ⟨ret_b (by first | rfl | (simp; done) | (simp; omega)), rfl⟩
    ·
      go_enter Try.func81, Try.ntmps81
      go_wp2
      go_ret
      exact ⟨ret_b (by first | rfl | (simp; done) | (simp; omega)), rfl⟩
  · refine ⟨false, fun w => ?_, fun w => ?_⟩
    ·
      go_enter Try.func72, Try.ntmps72
      go_wp2
      go_ret
      exact ⟨ret_b (by first | rfl | (simp; done) | (simp; omega)), rfl⟩
    ·
      go_enter Try.func81, Try.ntmps81
      go_wp2
      go_ret
      exact ⟨ret_b (by first | rfl | (simp; done) | (simp; omega)), rfl⟩


set_option maxHeartbeats 400000 in
theorem tak6 (a b : Int) (ha : 0 ≤ a ∧ a ≤ 4294967295) (hb : 0 ≤ b ∧ b ≤ 4294967295) : ∃ t, TakIs 6 a b t := by
  by_cases h : wrap32 a < wrap32 b
  · refine ⟨true, fun w => ?_, fun w => ?_⟩
    ·
      go_enter Try.func72, Try.ntmps72
      go_wp2
      go_ret
      exact ⟨ret_b (by first | rfl | (simp; done) | (simp; omega)), rfl⟩
    ·
      go_enter Try.func81, Try.ntmps81
      go_wp2
      go_ret
      exact ⟨ret_b (by first | rfl | (simp; done) | (simp; omega)), rfl⟩
  · refine ⟨false, fun w => ?_, fun w => ?_⟩
    ·
      go_enter Try.func72, Try.ntmps72
      go_wp2
      go_ret
      exact ⟨ret_b (by first | rfl | (simp; done) | (simp; omega)), rfl⟩
    ·
      go_enter Try.func81, Try.ntmps81
      go_wp2
      go_ret
      exact ⟨ret_b (by first | rfl | (simp; done) | (simp; omega)), rfl⟩


set_option maxHeartbeats 400000 in
theorem tak7 (a b : Int) (ha : 0 ≤ a ∧ a ≤ 4294967295) (hb : 0 ≤ b ∧ b ≤ 4294967295) : ∃ t, TakIs 7 a b t := by
  by_cases h : wrap32 b ≤ wrap32 a
  · refine ⟨true, fun w => ?_, fun w => ?_⟩
    ·
      go_enter Try.func72, Try.ntmps72
      go_wp2
      go_ret
      exact ⟨ret_b (by first | rfl | (simp; done) | (simp; omega)), rfl⟩
    ·
      go_enter Try.func81, Try.ntmps81
      go_wp2
      go_ret
      exact ⟨ret_b (by first | rfl | (simp; done) | (simp; omega)), rfl⟩
  · refine ⟨false, fun w => ?_, fun w => ?_⟩
    ·
      go_enter Try.func72, Try.ntmps72
      go_wp2
      go_ret
      exact ⟨ret_b (by first | rfl | (simp; done) | (simp; omega)), rfl⟩
    ·
      go_enter Try.func81, Try.ntmps81
      go_wp2
      go_ret
      exact ⟨ret_b (by first | rfl | (simp; done) | (simp; omega)), rfl⟩


set_option maxHeartbeats 400000 in
theorem tak8 (a b : Int) (ha : 0 ≤ a ∧ a ≤ 4294967295) (hb : 0 ≤ b ∧ b ≤ 4294967295) : ∃ t, TakIs 8 a b t := by
  by_cases h : a < b
  · refine ⟨true, fun w => ?_, fun w => ?_⟩
    ·
      go_enter Try.func72, Try.ntmps72
      go_wp2
      go_ret
      exact ⟨ret_b (by first | rfl | (simp; done) | (simp; omega)), rfl⟩
    ·
      go_enter Try.func81, Try.ntmps81
      go_wp2
      go_ret
      exact ⟨ret_b (by first | rfl | (simp; done) | (simp; omega)), rfl⟩
  · refine ⟨false, fun w => ?_, fun w => ?_⟩
    ·
      go_enter Try.func72, Try.ntmps72
      go_wp2
      go_ret
      exact ⟨ret_b (by first | rfl | (simp; done) | (simp; omega)), rfl⟩
    ·
      go_enter Try.func81, Try.ntmps81
      go_wp2
      go_ret
      exact ⟨ret_b (by first | rfl | (simp; done) | (simp; omega)), rfl⟩


set_option maxHeartbeats 400000 in
theorem tak9 (a b : Int) (ha : 0 ≤ a ∧ a ≤ 4294967295) (hb : 0 ≤ b ∧ b ≤ 4294967295) : ∃ t, TakIs 9 a b t := by
  by_cases h : b ≤ a
  · refine ⟨true, fun w => ?_, fun w => ?_⟩
    ·
      go_enter Try.func72, Try.ntmps72
      go_wp2
      go_ret
      exact ⟨ret_b (by first | rfl | (simp; done) | (simp; omega)), rfl⟩
    ·
      go_enter Try.func81, Try.ntmps81
      go_wp2
      go_ret
      exact ⟨ret_b (by first | rfl | (simp; done) | (simp; omega)), rfl⟩
  · refine ⟨false, fun w => ?_, fun w => ?_⟩
    ·
      go_enter Try.func72, Try.ntmps72
      go_wp2
      go_ret
      exact ⟨ret_b (by first | rfl | (simp; done) | (simp; omega)), rfl⟩
    ·
      go_enter Try.func81, Try.ntmps81
      go_wp2
      go_ret
      exact ⟨ret_b (by first | rfl | (simp; done) | (simp; omega)), rfl⟩

theorem alu_any (op a b : Int) (h : 12 ≤ op ∧ op ≤ 33) (ha : 0 ≤ a ∧ a ≤ 4294967295) (hb : 0 ≤ b ∧ b ≤ 4294967295) : ∃ r, AluIs op a b r := by
  rcases (by omega : op = 12 ∨ op = 13 ∨ op = 14 ∨ op = 15 ∨ op = 16 ∨ op = 17 ∨ op = 18 ∨ op = 19 ∨ op = 20 ∨ op = 21 ∨ op = 22 ∨ op = 23 ∨ op = 24 ∨ op = 25 ∨ op = 26 ∨ op = 27 ∨ op = 28 ∨ op = 29 ∨ op = 30 ∨ op = 31 ∨ op = 32 ∨ op = 33) with rfl | rfl | rfl | rfl | rfl | rfl | rfl | rfl | rfl | rfl | rfl | rfl | rfl | rfl | rfl | rfl | rfl | rfl | rfl | rfl | rfl | rfl
  · exact alu12 a b ha hb
  · exact alu13 a b ha hb
  · exact alu14 a b ha hb
  · exact alu15 a b ha hb
  · exact alu16 a b ha hb
  · exact alu17 a b ha hb
  · exact alu18 a b ha hb
  · exact alu19 a b ha hb
  · exact alu20 a b ha hb
  · exact alu21 a b ha hb
  · exact alu22 a b ha hb
  · exact alu23 a b ha hb
  · exact alu24 a b ha hb
  · exact alu25 a b ha hb
  · exact alu26 a b ha hb
  · exact alu27 a b ha hb
  · exact alu28 a b ha hb
  · exact alu29 a b ha hb
  · exact alu30 a b ha hb
  · exact alu31 a b ha hb
  · exact alu32 a b ha hb
  · exact alu33 a b ha hb

theorem tak_any (op a b : Int) (h : 4 ≤ op ∧ op ≤ 9) (ha : 0 ≤ a ∧ a ≤ 4294967295) (hb : 0 ≤ b ∧ b ≤ 4294967295) : ∃ t, TakIs op a b t := by
  rcases (by omega : op = 4 ∨ op = 5 ∨ op = 6 ∨ op = 7 ∨ op = 8 ∨ op = 9) with rfl | rfl | rfl | rfl | rfl | rfl
  · exact tak4 a b ha hb
  · exact tak5 a b ha hb
  · exact tak6 a b ha hb
  · exact tak7 a b ha hb
  · exact tak8 a b ha hb
  · exact tak9 a b ha hb

end Go.Proofs.Ytabjcodpagjbjaa
