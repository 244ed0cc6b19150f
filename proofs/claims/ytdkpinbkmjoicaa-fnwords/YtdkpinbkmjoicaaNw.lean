import Derived.Test.YtdkpinbkmjoicaaDw
namespace Go.Proofs.Ytdkpinbkmjoicaa
open Go.RowKit
set_option linter.unusedVariables false
set_option linter.unusedSimpArgs false
/-- Bytes that can be read. -/
def B8 (w : World) (a : Option Addr) (len : Nat) : Prop :=
  0 < len → ∃ b off, a = some ⟨b, off, none⟩ ∧ b < w.heap.size ∧ ∀ j, j < len → ∃ z : Int, 0 ≤ z ∧ z ≤ 255 ∧ w.cell? ⟨b, off + j, none⟩ = some (.int .u8 z)
theorem B8.below {w w' : World} {a : Option Addr} {len : Nat} (h : B8 w a len) (hb : Below w.heap.size w w') : B8 w' a len := fun hl => by
  obtain ⟨b, off, ha, hlt, hc⟩ := h hl
  exact ⟨b, off, ha, by have := hb.size; omega, fun j hj => by obtain ⟨z, z0, z1, cz⟩ := hc j hj; exact ⟨z, z0, z1, (hb.cell (p := ⟨b, off + j, none⟩) hlt).trans cz⟩⟩
set_option maxHeartbeats 2000000 in
theorem new_some (b off len cap : Nat) (w : World) (hl : len ≤ 1048576) (hc : ∀ j, j < len → ∃ z : Int, 0 ≤ z ∧ z ≤ 255 ∧ w.cell? ⟨b, off + j, none⟩ = some (.int .u8 z)) :
    Calls Try.prog 21 #[.slice (some ⟨b, off, none⟩) len cap] w fun e w' => ∃ h : Int, e = .returned (.pointer (some ⟨w.heap.size, 0, none⟩)) ∧ w' = w.alloc (.cells #[.slice (some ⟨b, off, none⟩) len cap, .int .i64 0, .int .i64 h] 83) := by
  have HC : Hid _ := hc
  clear hc
  go_enter Try.func21, Try.ntmps21
  go_wp2
  go_loop [3, 4] (fun hv i => ∃ k : Nat, k ≤ len ∧ i = .int .i64 k ∧ ∃ h : Int, hv = .int .i64 h) (fun _ i => len - (intOf i).toNat)
  case atStart => exact ⟨0, Nat.zero_le _, rfl, _, rfl⟩
  case round =>
    obtain ⟨k, hk, rfl, h, rfl⟩ := hrel
    by_cases hlt : k < len
    · obtain ⟨z, z0, z1, cz⟩ := HC.out k hlt
      go_wp2
      go_round
      case rel => exact ⟨k + 1, by omega, by go_num, _, rfl⟩
      case measure => simp [intOf]; omega
    · go_wp2
      go_ret
      first | exact ⟨_, rfl, rfl⟩ | exact ⟨rfl, _, rfl⟩
set_option maxHeartbeats 1000000 in
theorem new_none (a : Option Addr) (cap : Nat) (w : World) :
    Calls Try.prog 21 #[.slice a 0 cap] w fun e w' => ∃ h : Int, e = .returned (.pointer (some ⟨w.heap.size, 0, none⟩)) ∧ w' = w.alloc (.cells #[.slice a 0 cap, .int .i64 0, .int .i64 h] 83) := by
  go_enter Try.func21, Try.ntmps21
  go_wp2
  refine wp_loop_rounds 1 ?_
  rw [rounds_succ]
  go_wp2
  go_ret
  first | exact ⟨_, rfl, rfl⟩ | exact ⟨rfl, _, rfl⟩
theorem cur_new (a : Option Addr) (len cap : Nat) (h : Int) (w : World) (hb : B8 w a len) : Cur w.heap.size a len cap (w.alloc (.cells #[.slice a len cap, .int .i64 0, .int .i64 h] 83)) := by
  refine ⟨by simp, by simp, ⟨0, Nat.zero_le _, by simp⟩, ⟨h, by simp⟩, fun j => by simp, fun hl => ?_⟩
  obtain ⟨b, off, ha, hlt, hc⟩ := hb hl
  exact ⟨b, off, ha, by simp; omega, by omega, fun j hj => by obtain ⟨z, z0, z1, cz⟩ := hc j hj; exact ⟨z, z0, z1, (World.cell?_alloc_past _ b _ hlt).trans cz⟩⟩
theorem new_any (a : Option Addr) (len cap : Nat) (w : World) (hl : len ≤ 1048576) (hb : B8 w a len) :
    Calls Try.prog 21 #[.slice a len cap] w fun e w' => e = .returned (.pointer (some ⟨w.heap.size, 0, none⟩)) ∧ Cur w.heap.size a len cap w' ∧ Below w.heap.size w w' ∧ w'.heap.size = w.heap.size + 1 := by
  by_cases h0 : len = 0
  · subst h0
    refine (new_none a cap w).mono ?_
    rintro e w' ⟨h, rfl, rfl⟩
    exact ⟨rfl, cur_new a 0 cap h w hb, (Below.refl _ _).alloc (Nat.le_refl _) _, by simp⟩
  · obtain ⟨b, off, rfl, hlt, hc⟩ := hb (by omega)
    refine (new_some b off len cap w hl hc).mono ?_
    rintro e w' ⟨h, rfl, rfl⟩
    exact ⟨rfl, cur_new _ len cap h w hb, (Below.refl _ _).alloc (Nat.le_refl _) _, by simp⟩
end Go.Proofs.Ytdkpinbkmjoicaa
