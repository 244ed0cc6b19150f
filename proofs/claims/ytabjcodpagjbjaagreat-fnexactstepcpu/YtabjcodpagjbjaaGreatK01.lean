import Derived.Test.YtabjcodpagjbjaaGreatK00
import Derived.Deep.RegionWith
namespace Go.Proofs.YtabjcodpagjbjaaGreat
open Go.RowKit
set_option linter.unusedVariables false
set_option linter.unusedSimpArgs false

set_option maxHeartbeats 1000000 in
theorem words_s (v : Value) (zs : List Int) (w : World) (hl : zs.length ≤ 2097152) (h : Lis .i64 w v zs) :
    Calls Tryz.prog 40 #[v] w fun e w' => e = .returned (.bool (wrds zs)) ∧ ∃ n, w' = w.drewN n := by
  rcases h.cases with ⟨rfl, a, cap, rfl⟩ | ⟨hn, g, off, cap, rfl, hR⟩
  · clear h hl
    go_enter Tryz.func40, Tryz.ntmps40
    go_wp2
    refine wp_loop_rounds 1 ?_
    rw [rounds_succ]
    go_wp2
    go_ret
    exact ⟨rfl, 0, rfl⟩
  · have hcell := hR.cell
    clear h hR
    go_enter Tryz.func40, Tryz.ntmps40
    go_wp2
    go_loopw [3] (fun i wr => ∃ k : Nat, k ≤ zs.length ∧ i = .int .i64 k ∧ (∀ j, j < k → wrd (zs.getD j 0) = true) ∧ ∃ n, wr = w.drewN n) (fun i _ => zs.length - (intOf i).toNat)
    case atStart => exact ⟨0, Nat.zero_le _, rfl, fun j hj => absurd hj (Nat.not_lt_zero _), 0, rfl⟩
    case round =>
      obtain ⟨k, hk, rfl, hall, n, rfl⟩ := hrel
      have HA : Hid _ := hall
      clear hall
      by_cases hlt : k < zs.length
      · have hc := hcell k hlt
        have HC : Hid _ := hcell
        clear hcell
        generalize hz : zs.getD k 0 = z at hc
        have HZ : Hid _ := hz
        clear hz
        by_cases hw : wrd z = true
        · have hwz := (wrd_wrap z).mpr hw
          have HW : Hid _ := hw
          clear hw
          go_wp2_with fail
          go_region_with (go_at_call 53; refine (wrap_s _ _).mono ?_; rintro e w1 ⟨rfl, rfl⟩)
          all_goals go_wp2
          all_goals go_roundw
          all_goals first
            | exact ⟨k + 1, by omega, by go_num, fun j hj => by
                by_cases hjk : j = k
                · subst hjk
                  rw [HZ.out]
                  exact HW.out
                · exact HA.out j (by omega), _, rfl⟩
            | (simp [intOf]; omega)
        · have hwz : ¬ IntKind.i32.wrap z = z := fun e => hw ((wrd_wrap z).mp e)
          have HW : Hid _ := hw
          clear hw
          go_wp2_with fail
          go_region_with (go_at_call 53; refine (wrap_s _ _).mono ?_; rintro e w1 ⟨rfl, rfl⟩)
          all_goals go_wp2
          all_goals go_ret
          all_goals exact ⟨ret_b (wrds_no zs k hlt (by rw [HZ.out]; exact Bool.not_eq_true _ ▸ HW.out)).symm, _, rfl⟩
      · go_wp2
        go_ret
        exact ⟨ret_b (wrds_yes zs fun j hj => HA.out j (by omega)).symm, _, rfl⟩

end Go.Proofs.YtabjcodpagjbjaaGreat
