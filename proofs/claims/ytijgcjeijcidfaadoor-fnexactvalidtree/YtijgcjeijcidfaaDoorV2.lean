import Derived.Test.YtijgcjeijcidfaaDoorV1
namespace Go.Proofs.YtijgcjeijcidfaaDoor
open Go.RowKit
set_option linter.unusedVariables false
set_option linter.unusedSimpArgs false

theorem byteAt_eq (s : ByteArray) (k : Nat) (h : k < s.size) : (s[k].toNat : Int) = byteAt s k := by
  have h' : k < s.data.toList.length := by simpa using h
  simp only [byteAt, List.getD, List.getElem?_eq_getElem h', Option.getD_some]
  rfl
theorem nameB_iff (s : ByteArray) : nameB s = true ↔ nameP s := by simp [nameB]
theorem nameB_false {s : ByteArray} (h : ¬ nameP s) : nameB s = false := by simp [nameB, h]
theorem nameB_true {s : ByteArray} (h : nameP s) : nameB s = true := by simp [nameB, h]

set_option maxHeartbeats 400000 in
theorem name_yes (s : ByteArray) (w : World) (h1 : 1 ≤ s.size) (h2 : s.size ≤ 20) (h3 : smallB (byteAt s 0) = true) (h4 : resB s = false) :
    Calls Tryd.prog 11 #[.string s] w fun e w' => e = .returned (.bool (nameB s)) ∧ w' = w := by
  have hb : 0 < s.size := by omega
  go_enter Tryd.func11, Tryd.ntmps11
  go_wp2_with (first
    | (go_at_call 22; refine (first_any _ _).mono ?_; rintro e w' ⟨rfl, rfl⟩; rw [byteAt_eq _ _ hb, h3])
    | (go_at_call 23; refine (res_any _ _).mono ?_; rintro e w' ⟨rfl, rfl⟩; rw [h4]))
  go_loop [3] (fun i => ∃ k : Nat, k ≤ s.size ∧ i = .int .i64 k ∧ laterTo s k) (fun i => s.size - (intOf i).toNat)
  case atStart => exact ⟨0, Nat.zero_le _, rfl, fun j hj => absurd hj (Nat.not_lt_zero _)⟩
  case round =>
    obtain ⟨k, hk, rfl, hl⟩ := hrel
    have HL : Hid (laterTo s k) := hl
    clear hl
    by_cases hlt : k < s.size
    · cases hc : laterB (byteAt s k)
      · go_wp2_with (go_at_call 24; refine (later_any _ _).mono ?_; rintro e w' ⟨rfl, rfl⟩; rw [byteAt_eq _ _ hlt, hc])
        go_ret
        exact ⟨ret_bool (nameB_false fun h => by have := h.2.2.2.1 k hlt; rw [hc] at this; cases this).symm, rfl⟩
      · go_wp2_with (go_at_call 24; refine (later_any _ _).mono ?_; rintro e w' ⟨rfl, rfl⟩; rw [byteAt_eq _ _ hlt, hc])
        go_round
        case rel => exact ⟨k + 1, by omega, by go_num, fun j hj => by by_cases e : j = k; (subst e; exact hc); exact HL.out j (by omega)⟩
        case measure => simp [intOf]; omega
    · go_wp2_with fail
      go_ret
      exact ⟨ret_bool (nameB_true ⟨h1, h2, h3, fun j hj => HL.out j (by omega), h4⟩).symm, rfl⟩

set_option maxHeartbeats 400000 in
theorem name_no (s : ByteArray) (w : World) (h : ¬ (1 ≤ s.size ∧ s.size ≤ 20 ∧ smallB (byteAt s 0) = true ∧ resB s = false)) :
    Calls Tryd.prog 11 #[.string s] w fun e w' => e = .returned (.bool (nameB s)) ∧ w' = w := by
  have hn : nameB s = false := nameB_false fun hp => h ⟨hp.1, hp.2.1, hp.2.2.1, hp.2.2.2.2⟩
  rw [hn]
  have H : Hid _ := h
  clear h hn
  by_cases h1 : 1 ≤ s.size
  · by_cases h2 : s.size ≤ 20
    · have hb : 0 < s.size := by omega
      cases h3 : smallB (byteAt s 0)
      · go_enter Tryd.func11, Tryd.ntmps11
        go_wp2_with (first
          | (go_at_call 22; refine (first_any _ _).mono ?_; rintro e w' ⟨rfl, rfl⟩; rw [byteAt_eq _ _ hb, h3]))
        go_ret
        exact ⟨rfl, rfl⟩
      · have h4 : resB s = true := by
          cases e : resB s
          · exact absurd ⟨h1, h2, h3, e⟩ H.out
          · rfl
        go_enter Tryd.func11, Tryd.ntmps11
        go_wp2_with (first
          | (go_at_call 22; refine (first_any _ _).mono ?_; rintro e w' ⟨rfl, rfl⟩; rw [byteAt_eq _ _ hb, h3])
          | (go_at_call 23; refine (res_any _ _).mono ?_; rintro e w' ⟨rfl, rfl⟩; rw [h4]))
        go_ret
        exact ⟨rfl, rfl⟩
    · go_enter Tryd.func11, Tryd.ntmps11
      go_wp2_with fail
      go_ret
      exact ⟨rfl, rfl⟩
  · go_enter Tryd.func11, Tryd.ntmps11
    go_wp2_with fail
    go_ret
    exact ⟨rfl, rfl⟩

theorem name_any (s : ByteArray) (w : World) : Calls Tryd.prog 11 #[.string s] w fun e w' => e = .returned (.bool (nameB s)) ∧ w' = w := by
  by_cases h : 1 ≤ s.size ∧ s.size ≤ 20 ∧ smallB (byteAt s 0) = true ∧ resB s = false
  · exact name_yes s w h.1 h.2.1 h.2.2.1 h.2.2.2
  · exact name_no s w h

end Go.Proofs.YtijgcjeijcidfaaDoor
