import Derived.Test.YtplkgkgekgdnmaaLc
import Derived.Deep.RegionWith
namespace Go.Proofs.Ytplkgkgekgdnmaa
open Go.RowKit
set_option linter.unusedVariables false
set_option linter.unusedSimpArgs false

set_option maxHeartbeats 1000000 in
theorem words_i (v : Value) (zs : List Int) (w : World) (hl : zs.length ≤ 2097152) (h : Lis .i64 w v zs) :
    Calls Try.prog 60 #[v] w fun e w' => e = .returned (.bool (wrds zs)) ∧ ∃ n, w' = w.drewN n := by
  rcases h.cases with ⟨rfl, a, cap, rfl⟩ | ⟨hn, g, off, cap, rfl, hR⟩
  · clear h hl
    go_enter Try.func60, Try.ntmps60
    go_wp2
    refine wp_loop_rounds 1 ?_
    rw [rounds_succ]
    go_wp2
    go_ret
    exact ⟨rfl, 0, rfl⟩
  · have hcell := hR.cell
    clear h hR
    go_enter Try.func60, Try.ntmps60
    go_wp2
    go_loopw [7] (fun i wr => ∃ k : Nat, k ≤ zs.length ∧ i = .int .i64 k ∧ (∀ j, j < k → wrd (zs.getD j 0) = true) ∧ ∃ n, wr = w.drewN n) (fun i _ => zs.length - (intOf i).toNat)
    case atStart => exact ⟨0, Nat.zero_le _, rfl, fun j hj => absurd hj (Nat.not_lt_zero _), 0, rfl⟩
    case round =>
      obtain ⟨k, hk, rfl, hall, n, rfl⟩ := hrel
      have HA : Hid _ := hall
      clear hall
      by_cases hlt : k < zs.length
      · have hc := hcell k hlt
        have HC : Hid _ := hcell
        clear hcell
        generalize hz : zs.getD k 0 = z at hc
        have HZ : Hid _ := hz
        clear hz
        by_cases hw : wrd z = true
        · have hwz : wrap32 z = z := by have := (wrd_wrap z).mpr hw; rw [IntKind.wrap_i32] at this; unfold wrap32; exact this
          have HW : Hid _ := hw
          clear hw
          go_wp2_with (go_at_call 66; refine (wrap_i _ _).mono ?_; rintro e w1 ⟨rfl, rfl⟩)
          all_goals go_roundw
          all_goals first
            | exact ⟨k + 1, by omega, by go_num, fun j hj => by
                by_cases hjk : j = k
                · subst hjk
                  rw [HZ.out]
                  exact HW.out
                · exact HA.out j (by omega), _, rfl⟩
            | (simp [intOf]; omega)
        · have hwz : ¬ wrap32 z = z := fun e => hw ((wrd_wrap z).mp (by rw [IntKind.wrap_i32]; unfold wrap32 at e; exact e))
          have HW : Hid _ := hw
          clear hw
          go_wp2_with (go_at_call 66; refine (wrap_i _ _).mono ?_; rintro e w1 ⟨rfl, rfl⟩)
          all_goals go_ret
          all_goals exact ⟨ret_b (wrds_no zs k hlt (by rw [HZ.out]; exact Bool.not_eq_true _ ▸ HW.out)).symm, _, rfl⟩
      · go_wp2
        go_ret
        exact ⟨ret_b (wrds_yes zs fun j hj => HA.out j (by omega)).symm, _, rfl⟩

def okIn (zs : List Int) : Bool := decide (zs.length ≤ 1000) && wrds zs
set_option maxHeartbeats 1000000 in
theorem input_i (v : Value) (zs : List Int) (w : World) (hl : zs.length ≤ 2097152) (h : Lis .i64 w v zs) :
    Calls Try.prog 46 #[v] w fun e w' => e = .returned (.bool (okIn zs)) ∧ Below w.heap.size w w' := by
  have HL : Hid _ := h
  obtain ⟨a, cap, rfl⟩ := h.len0
  clear h
  by_cases h1 : zs.length ≤ 1000
  · have hb : ∀ w' n, w' = w.drewN n → Below w.heap.size w w' := fun w' n e => e ▸ below_drewN (Below.refl _ _) n
    go_enter Try.func46, Try.ntmps46
    go_wp2_with (go_at_call 60; refine (words_i _ zs _ hl HL.out).mono ?_; rintro e w1 ⟨rfl, n, rfl⟩)
    go_ret
    exact ⟨ret_b (by simp [okIn, h1]), hb _ _ rfl⟩
  · go_enter Try.func46, Try.ntmps46
    go_wp2
    go_ret
    exact ⟨ret_b (by simp [okIn]; omega), Below.refl _ _⟩

def vimg (n : Nat) (d b : Int) : Bool := decide (1 ≤ n ∧ n ≤ 20000 ∧ 0 ≤ d ∧ d ≤ 65536 ∧ d % 4 = 0 ∧ 0 ≤ b ∧ b ≤ 1000000 ∧ b % 16 = 0)
set_option maxHeartbeats 1000000 in
theorem vs_any (a : Option Addr) (len cap : Nat) (d bd : Int) (w : World) (hl : len ≤ 1048576) :
    Calls Try.prog 18 #[.agg #[.slice a len cap, .int .i64 d, .int .i64 bd]] w fun e w' => e = .returned (.bool (vimg len d bd)) ∧ Below w.heap.size w w' := by
  go_enter Try.func18, Try.ntmps18
  go_wp2
  all_goals go_ret
  all_goals refine ⟨ret_b ?_, (Below.refl _ _).alloc (Nat.le_refl _) _⟩
  all_goals (unfold vimg; rw [Bool.eq_iff_iff]; simp; try omega)
set_option maxHeartbeats 1000000 in
theorem vi_any (a : Option Addr) (len cap : Nat) (d bd : Int) (w : World) (hl : len ≤ 1048576) :
    Calls Try.prog 20 #[.agg #[.slice a len cap, .int .i64 d, .int .i64 bd]] w fun e w' => e = .returned (.bool (vimg len d bd)) ∧ Below w.heap.size w w' := by
  go_enter Try.func20, Try.ntmps20
  go_wp2
  all_goals go_ret
  all_goals refine ⟨ret_b ?_, (Below.refl _ _).alloc (Nat.le_refl _) _⟩
  all_goals (unfold vimg; rw [Bool.eq_iff_iff]; simp; try omega)

end Go.Proofs.Ytplkgkgekgdnmaa
