import Derived.Test.YtjhmgjimppflhaaGreatDoorZ03
import Derived.Lib.ConvBytes
import Derived.Deep.RegionWith
import Derived.WalkSmall
namespace Go.Proofs.YtjhmgjimppflhaaGreatDoor
set_option linter.unusedVariables false
set_option linter.unusedSimpArgs false
set_option maxRecDepth 100000
set_option maxHeartbeats 16000000
section
open Go.RowKit
theorem byteAt_eq (s : ByteArray) (k : Nat) (h : k < s.size) : (s[k].toNat : Int) = byteAt s k := by
  have h' : k < s.data.toList.length := by simpa using h
  simp only [byteAt, List.getD, List.getElem?_eq_getElem h', Option.getD_some]
  rfl
theorem nameB_iff (s : ByteArray) : nameB s = true ↔ nameP s := by simp [nameB]
theorem nameB_false {s : ByteArray} (h : ¬ nameP s) : nameB s = false := by simp [nameB, h]
theorem nameB_true {s : ByteArray} (h : nameP s) : nameB s = true := by simp [nameB, h]
set_option maxHeartbeats 400000 in
theorem name_yes (s : ByteArray) (w : World) (h1 : 1 ≤ s.size) (h2 : s.size ≤ 20) (h3 : smallB (byteAt s 0) = true) (h4 : resB s = false) :
    Calls Tryz.prog 48 #[.string s] w fun e w' => e = .returned (.bool (nameB s)) ∧ w' = w := by
  have hb : 0 < s.size := by omega
  go_enter Tryz.func48, Tryz.ntmps48
  go_wp2_with (first
    | (go_at_call 79; refine (first_any _ _).mono ?_; rintro e w' ⟨rfl, rfl⟩; rw [byteAt_eq _ _ hb, h3])
    | (go_at_call 80; refine (res_any _ _).mono ?_; rintro e w' ⟨rfl, rfl⟩; rw [h4]))
  go_loop [3] (fun i => ∃ k : Nat, k ≤ s.size ∧ i = .int .i64 k ∧ laterTo s k) (fun i => s.size - (RowKit.intOf i).toNat)
  case atStart => exact ⟨0, Nat.zero_le _, rfl, fun j hj => absurd hj (Nat.not_lt_zero _)⟩
  case round =>
    obtain ⟨k, hk, rfl, hl⟩ := hrel
    have HL : Hid (laterTo s k) := hl
    clear hl
    by_cases hlt : k < s.size
    · cases hc : laterB (byteAt s k)
      · go_wp2_with (go_at_call 81; refine (later_any _ _).mono ?_; rintro e w' ⟨rfl, rfl⟩; rw [byteAt_eq _ _ hlt, hc])
        go_ret
        exact ⟨ret_bool (nameB_false fun h => by have := h.2.2.2.1 k hlt; rw [hc] at this; cases this).symm, rfl⟩
      · go_wp2_with (go_at_call 81; refine (later_any _ _).mono ?_; rintro e w' ⟨rfl, rfl⟩; rw [byteAt_eq _ _ hlt, hc])
        go_round
        case rel => exact ⟨k + 1, by omega, by go_num, fun j hj => by by_cases e : j = k; (subst e; exact hc); exact HL.out j (by omega)⟩
        case measure => simp [RowKit.intOf]; omega
    · go_wp2_with fail
      go_ret
      exact ⟨ret_bool (nameB_true ⟨h1, h2, h3, fun j hj => HL.out j (by omega), h4⟩).symm, rfl⟩
set_option maxHeartbeats 400000 in
theorem name_no (s : ByteArray) (w : World) (h : ¬ (1 ≤ s.size ∧ s.size ≤ 20 ∧ smallB (byteAt s 0) = true ∧ resB s = false)) :
    Calls Tryz.prog 48 #[.string s] w fun e w' => e = .returned (.bool (nameB s)) ∧ w' = w := by
  have hn : nameB s = false := nameB_false fun hp => h ⟨hp.1, hp.2.1, hp.2.2.1, hp.2.2.2.2⟩
  rw [hn]
  have H : Hid _ := h
  clear h hn
  by_cases h1 : 1 ≤ s.size
  · by_cases h2 : s.size ≤ 20
    · have hb : 0 < s.size := by omega
      cases h3 : smallB (byteAt s 0)
      · go_enter Tryz.func48, Tryz.ntmps48
        go_wp2_with (first
          | (go_at_call 79; refine (first_any _ _).mono ?_; rintro e w' ⟨rfl, rfl⟩; rw [byteAt_eq _ _ hb, h3]))
        go_ret
        exact ⟨rfl, rfl⟩
      · have h4 : resB s = true := by
          cases e : resB s
          · exact absurd ⟨h1, h2, h3, e⟩ H.out
          · rfl
        go_enter Tryz.func48, Tryz.ntmps48
        go_wp2_with (first
          | (go_at_call 79; refine (first_any _ _).mono ?_; rintro e w' ⟨rfl, rfl⟩; rw [byteAt_eq _ _ hb, h3])
          | (go_at_call 80; refine (res_any _ _).mono ?_; rintro e w' ⟨rfl, rfl⟩; rw [h4]))
        go_ret
        exact ⟨rfl, rfl⟩
    · go_enter Tryz.func48, Tryz.ntmps48
      go_wp2_with fail
      go_ret
      exact ⟨rfl, rfl⟩
  · go_enter Tryz.func48, Tryz.ntmps48
    go_wp2_with fail
    go_ret
    exact ⟨rfl, rfl⟩
theorem name_any (s : ByteArray) (w : World) : Calls Tryz.prog 48 #[.string s] w fun e w' => e = .returned (.bool (nameB s)) ∧ w' = w := by
  by_cases h : 1 ≤ s.size ∧ s.size ≤ 20 ∧ smallB (byteAt s 0) = true ∧ resB s = false
  · exact name_yes s w h.1 h.2.1 h.2.2.1 h.2.2.2
  · exact name_no s w h
end
section
open Go.RowKit
/-- How far the bytes of a text are letters or digits. -/
def spanOf (s : ByteArray) (k : Nat) : Prop := laterTo s k ∧ (k < s.size → laterB (byteAt s k) = false)
set_option maxHeartbeats 400000 in
theorem span_any (b cap : Nat) (s : ByteArray) (w : World) (hs : s.size ≤ 9223372036854775807) (hc : ∀ j, j < s.size → w.cell? ⟨b, j, none⟩ = some (.int .u8 (byteAt s j))) :
    Calls Tryz.prog 128 #[.slice (some ⟨b, 0, none⟩) s.size cap, .func (.func 129) #[] #[]] w fun e w' => ∃ k : Nat, k ≤ s.size ∧ spanOf s k ∧ e = .returned (.int .i64 k) ∧ w' = w := by
  go_enter Tryz.func128, Tryz.ntmps128
  go_wp2_with fail
  go_loop [9] (fun i => ∃ k : Nat, k ≤ s.size ∧ i = .int .i64 k ∧ laterTo s k) (fun i => s.size - (RowKit.intOf i).toNat)
  case atStart => exact ⟨0, Nat.zero_le _, rfl, fun j hj => absurd hj (Nat.not_lt_zero _)⟩
  case round =>
    obtain ⟨k, hk, rfl, hl⟩ := hrel
    have HL : Hid (laterTo s k) := hl
    clear hl
    by_cases hlt : k < s.size
    · have hck := hc k hlt
      have HC : Hid (∀ j, j < s.size → w.cell? ⟨b, j, none⟩ = some (.int .u8 (byteAt s j))) := hc
      clear hc
      cases hd : laterB (byteAt s k)
      · go_wp2_with (go_at_call 129; refine (span1_any _ _).mono ?_; rintro e w' ⟨rfl, rfl⟩; rw [hd])
        go_ret
        exact ⟨k, by omega, ⟨HL.out, fun _ => hd⟩, rfl, rfl⟩
      · go_wp2_with (go_at_call 129; refine (span1_any _ _).mono ?_; rintro e w' ⟨rfl, rfl⟩; rw [hd])
        go_round
        case rel => exact ⟨k + 1, by omega, by go_num, fun j hj => by by_cases e : j = k; (subst e; exact hd); exact HL.out j (by omega)⟩
        case measure => simp [RowKit.intOf]; omega
    · go_wp2_with fail
      go_ret
      exact ⟨s.size, by omega, ⟨fun j hj => HL.out j (by omega), fun h => absurd h (Nat.lt_irrefl _)⟩, rfl, rfl⟩
/-- The span of a name at the beginning of a text. -/
def nspanOf (s : ByteArray) (k : Nat) : Prop := (smallB (byteAt s 0) = false ∧ k = 0) ∨ (smallB (byteAt s 0) = true ∧ spanOf s k)
set_option maxHeartbeats 400000 in
theorem nspan_any (b cap : Nat) (s : ByteArray) (w : World) (h0 : 0 < s.size) (hs : s.size ≤ 9223372036854775807) (hc : ∀ j, j < s.size → w.cell? ⟨b, j, none⟩ = some (.int .u8 (byteAt s j))) :
    Calls Tryz.prog 114 #[.slice (some ⟨b, 0, none⟩) s.size cap] w fun e w' => ∃ k : Nat, k ≤ s.size ∧ nspanOf s k ∧ e = .returned (.int .i64 k) ∧ w' = w := by
  have hc0 := hc 0 h0
  have hne : ((s.size : Int) == 0) = false := by simp only [beq_eq_false_iff_ne]; omega
  have HC : Hid (∀ j, j < s.size → w.cell? ⟨b, j, none⟩ = some (.int .u8 (byteAt s j))) := hc
  clear hc
  cases hd : smallB (byteAt s 0)
  · go_enter Tryz.func114, Tryz.ntmps114
    go_wp2_with (go_at_call 127; refine (small_any _ _).mono ?_; rintro e w' ⟨rfl, rfl⟩; rw [hd])
    go_ret
    exact ⟨0, by omega, .inl ⟨hd, rfl⟩, rfl, rfl⟩
  · go_enter Tryz.func114, Tryz.ntmps114
    go_wp2_with (go_at_call 127; refine (small_any _ _).mono ?_; rintro e w' ⟨rfl, rfl⟩; rw [hd])
    refine (span_any b cap s _ hs HC.out).mono ?_
    rintro e w' ⟨k, hk, hsp, rfl, rfl⟩
    go_wp2_with fail
    go_ret
    exact ⟨k, hk, .inr ⟨hd, hsp⟩, rfl, rfl⟩
theorem bytesWorld_below (w : World) (e : TypeId) (s : ByteArray) : Below w.heap.size w (Lib.bytesWorld w e s) :=
  ⟨rfl, rfl, rfl, by rw [Lib.bytesWorld_size]; omega, fun k hk => Lib.bytesWorld_at_old w e s k hk⟩
theorem nspan_name {s : ByteArray} {k : Nat} (h1 : 1 ≤ s.size) (h2 : s.size ≤ 20) (hk : k ≤ s.size) (h : nspanOf s k) (hr : resB s = false) : (k == s.size) = nameB s := by
  apply Bool.eq_iff_iff.2
  simp only [beq_iff_eq, nameB_iff]
  constructor
  · rintro rfl
    rcases h with ⟨_, h⟩ | ⟨hs, hsp⟩
    · omega
    · exact ⟨h1, h2, hs, hsp.1, hr⟩
  · intro hp
    rcases h with ⟨h, _⟩ | ⟨hs, hsp⟩
    · rw [hp.2.2.1] at h; cases h
    · by_cases e : k = s.size
      · exact e
      · have h' := hsp.2 (by omega)
        rw [hp.2.2.2.1 k (by omega)] at h'; cases h'
set_option maxHeartbeats 400000 in
theorem vname_short (s : ByteArray) (w : World) (h : s.size < 1 ∨ 20 < s.size) :
    Calls Tryz.prog 95 #[.string s] w fun e w' => e = .returned (.bool (nameB s)) ∧ Below w.heap.size w w' := by
  have hn : nameB s = false := nameB_false fun hp => by have := hp.1; have := hp.2.1; omega
  rw [hn]
  rcases h with h | h
  · go_enter Tryz.func95, Tryz.ntmps95
    go_wp2_with fail
    go_ret
    exact ⟨rfl, Below.refl _ _⟩
  · have h' : 1 ≤ s.size := by omega
    go_enter Tryz.func95, Tryz.ntmps95
    go_wp2_with fail
    go_ret
    exact ⟨rfl, Below.refl _ _⟩
set_option maxHeartbeats 400000 in
theorem vname_long (s : ByteArray) (w : World) (h1 : 1 ≤ s.size) (h2 : s.size ≤ 20) :
    Calls Tryz.prog 95 #[.string s] w fun e w' => e = .returned (.bool (nameB s)) ∧ Below w.heap.size w w' := by
  have hconv : ∀ w, (convert 9 22 (.string s)).run Tryz.prog w = .ok (.slice (some ⟨w.heap.size, 0, none⟩) s.size (grownCap w s.size 0 5)) (Lib.bytesWorld w 5 s) := fun w => Lib.run_convert_string_bytes w 9 _ 5 s Tryz.underlying9 Tryz.underlying22 Tryz.underlying5
  go_enter Tryz.func95, Tryz.ntmps95
  go_wp2_with fail
  refine (nspan_any _ _ s _ (by omega) (by omega) (fun j hj => Lib.bytesWorld_cell w 5 s j hj)).mono ?_
  rintro e w' ⟨k, hk, hsp, rfl, rfl⟩
  have HSP : Hid (nspanOf s k) := hsp
  clear hsp
  by_cases hks : k = s.size
  · subst hks
    cases hr : resB s
    all_goals
      go_wp2_with (go_at_call 115; refine (resI_any _ _).mono ?_; rintro e w' ⟨rfl, rfl⟩; rw [hr])
      go_ret
    · refine ⟨ret_bool ?_, bytesWorld_below w 5 s⟩
      rw [← nspan_name h1 h2 hk HSP.out hr]; simp
    · exact ⟨ret_bool (nameB_false fun hp => by have := hp.2.2.2.2; rw [hr] at this; cases this).symm, bytesWorld_below w 5 s⟩
  · have hks' : ((k : Int) == (s.size : Int)) = false := by simp only [beq_eq_false_iff_ne]; omega
    go_wp2_with fail
    go_ret
    refine ⟨ret_bool ?_, bytesWorld_below w 5 s⟩
    cases hr : resB s
    · rw [← nspan_name h1 h2 hk HSP.out hr]; simp; omega
    · exact (nameB_false fun hp => by have := hp.2.2.2.2; rw [hr] at this; cases this).symm
theorem vname_any (s : ByteArray) (w : World) : Calls Tryz.prog 95 #[.string s] w fun e w' => e = .returned (.bool (nameB s)) ∧ Below w.heap.size w w' := by
  by_cases h : 1 ≤ s.size ∧ s.size ≤ 20
  · exact vname_long s w h.1 h.2
  · exact vname_short s w (by omega)
end
section
open Go.RowKit
theorem ret_int {k : IntKind} {a b : Int} (h : a = b) : Ending.returned (.int k a) = .returned (.int k b) := by rw [h]
set_option maxHeartbeats 400000 in
theorem in_any (v lo hi : Int) (w : World) : Calls Tryz.prog 49 #[.int .i64 v, .int .i64 lo, .int .i64 hi] w fun e w' => e = .returned (.bool (decide (lo ≤ v ∧ v ≤ hi))) ∧ w' = w := by
  go_enter Tryz.func49, Tryz.ntmps49
  go_wp2
  all_goals go_ret
  all_goals (refine ⟨ret_bool ?_, rfl⟩; apply Bool.eq_iff_iff.2; simp <;> omega)
set_option maxHeartbeats 400000 in
theorem wrap_any (v : Int) (w : World) : Calls Tryz.prog 144 #[.int .i64 v] w fun e w' => e = .returned (.int .i64 (wrap32 v)) ∧ w' = w := by
  go_enter Tryz.func144, Tryz.ntmps144
  go_wp2
  go_ret
  exact ⟨ret_int (by unfold wrap64 wrap32; omega), rfl⟩
theorem wrap32_eq (v : Int) : v = wrap32 v ↔ -2147483648 ≤ v ∧ v ≤ 2147483647 := by
  unfold wrap32; omega
set_option maxHeartbeats 400000 in
theorem arity_any (k v : Int) (s : ByteArray) (w : World) : Calls Tryz.prog 143 #[.agg #[.int .i64 k, .int .i64 v, .string s]] w fun e w' => e = .returned (.int .i64 (arity ⟨k, v, s⟩)) ∧ Below w.heap.size w w' := by
  go_enter Tryz.func143, Tryz.ntmps143
  go_wp2
  all_goals go_ret
  all_goals (refine ⟨ret_int ?_, (Below.refl _ _).alloc (Nat.le_refl _) _⟩; simp only [beq_iff_eq, beq_eq_false_iff_ne, ne_eq] at *; (try subst k); first | (exfalso; omega) | (simp [arity, *]; done))
set_option maxHeartbeats 1000000 in
theorem gnode1 (v : Int) (s : ByteArray) (w : World) : Calls Tryz.prog 124 #[.agg #[.int .i64 1, .int .i64 v, .string s]] w fun e w' => e = .returned (.bool (nodeB ⟨1, v, s⟩)) ∧ Below w.heap.size w w' := by
  cases h : (v == wrap32 v)
  · go_enter Tryz.func124, Tryz.ntmps124
    go_wp2_with fail
    go_quiet ((go_at_call 144; exact Calls.quiet_of_same (wrap_any _ _)))
    go_wp2_with fail
    go_ret
    exact ⟨ret_bool (by have : ¬ (v = wrap32 v) := by simpa using h
                        rw [wrap32_eq] at this
                        simp [nodeB]; omega), below_drewN ((Below.refl _ _).alloc (Nat.le_refl _) _) _⟩
  · go_enter Tryz.func124, Tryz.ntmps124
    go_wp2_with fail
    go_quiet ((go_at_call 144; exact Calls.quiet_of_same (wrap_any _ _)))
    go_wp2_with fail
    go_ret
    exact ⟨ret_bool (by have : (v = wrap32 v) := by simpa using h
                        rw [wrap32_eq] at this
                        simp [nodeB, this]), below_drewN ((Below.refl _ _).alloc (Nat.le_refl _) _) _⟩
set_option maxHeartbeats 1000000 in
theorem gnode23 (k v : Int) (hk : k = 2 ∨ k = 3) (s : ByteArray) (w : World) : Calls Tryz.prog 124 #[.agg #[.int .i64 k, .int .i64 v, .string s]] w fun e w' => e = .returned (.bool (nodeB ⟨k, v, s⟩)) ∧ Below w.heap.size w w' := by
  by_cases h : v = 0
  · subst h
    rcases hk with rfl | rfl
    all_goals
      go_enter Tryz.func124, Tryz.ntmps124
      go_wp2_with (go_at_call 48; refine (name_any _ _).mono ?_; rintro e w' ⟨rfl, rfl⟩)
      go_ret
      exact ⟨ret_bool (by simp [nodeB]), (Below.refl _ _).alloc (Nat.le_refl _) _⟩
  · have h' : (v == 0) = false := by simpa using h
    rcases hk with rfl | rfl
    all_goals
      go_enter Tryz.func124, Tryz.ntmps124
      go_wp2_with fail
      go_ret
      exact ⟨ret_bool (by simp [nodeB, h]), (Below.refl _ _).alloc (Nat.le_refl _) _⟩
set_option maxHeartbeats 1000000 in
theorem gnode4 (v : Int) (s : ByteArray) (w : World) : Calls Tryz.prog 124 #[.agg #[.int .i64 4, .int .i64 v, .string s]] w fun e w' => e = .returned (.bool (nodeB ⟨4, v, s⟩)) ∧ Below w.heap.size w w' := by
  cases h : decide (0 ≤ v ∧ v ≤ 6)
  all_goals
    go_enter Tryz.func124, Tryz.ntmps124
    go_wp2_with (first | (go_at_call 49; refine (in_any _ _ _ _).mono ?_; rintro e w' ⟨rfl, rfl⟩; rw [h]) | (go_at_call 48; refine (name_any _ _).mono ?_; rintro e w' ⟨rfl, rfl⟩))
    go_ret
    exact ⟨ret_bool (by simp only [nodeB]; simp [h]), (Below.refl _ _).alloc (Nat.le_refl _) _⟩
set_option maxHeartbeats 1000000 in
theorem gnode6 (v : Int) (s : ByteArray) (w : World) : Calls Tryz.prog 124 #[.agg #[.int .i64 6, .int .i64 v, .string s]] w fun e w' => e = .returned (.bool (nodeB ⟨6, v, s⟩)) ∧ Below w.heap.size w w' := by
  cases h : decide (0 ≤ v ∧ v ≤ 2)
  all_goals
    go_enter Tryz.func124, Tryz.ntmps124
    go_wp2_with (first | (go_at_call 49; refine (in_any _ _ _ _).mono ?_; rintro e w' ⟨rfl, rfl⟩; rw [h]))
    go_ret
    exact ⟨ret_bool (by simp only [nodeB]; simp [h]), (Below.refl _ _).alloc (Nat.le_refl _) _⟩
set_option maxHeartbeats 1000000 in
theorem gnode7 (v : Int) (s : ByteArray) (w : World) : Calls Tryz.prog 124 #[.agg #[.int .i64 7, .int .i64 v, .string s]] w fun e w' => e = .returned (.bool (nodeB ⟨7, v, s⟩)) ∧ Below w.heap.size w w' := by
  cases h : decide (0 ≤ v ∧ v ≤ 15)
  all_goals
    go_enter Tryz.func124, Tryz.ntmps124
    go_wp2_with (first | (go_at_call 49; refine (in_any _ _ _ _).mono ?_; rintro e w' ⟨rfl, rfl⟩; rw [h]))
    go_ret
    exact ⟨ret_bool (by simp only [nodeB]; simp [h]), (Below.refl _ _).alloc (Nat.le_refl _) _⟩
set_option maxHeartbeats 1000000 in
theorem gnode589 (k v : Int) (hk : k = 5 ∨ k = 8 ∨ k = 9) (s : ByteArray) (w : World) : Calls Tryz.prog 124 #[.agg #[.int .i64 k, .int .i64 v, .string s]] w fun e w' => e = .returned (.bool (nodeB ⟨k, v, s⟩)) ∧ Below w.heap.size w w' := by
  by_cases h : v = 0
  · subst h
    rcases hk with rfl | rfl | rfl
    all_goals
      go_enter Tryz.func124, Tryz.ntmps124
      go_wp2_with fail
      go_ret
      exact ⟨ret_bool (by simp [nodeB]), (Below.refl _ _).alloc (Nat.le_refl _) _⟩
  · have h' : (v == 0) = false := by simpa using h
    rcases hk with rfl | rfl | rfl
    all_goals
      go_enter Tryz.func124, Tryz.ntmps124
      go_wp2_with fail
      go_ret
      exact ⟨ret_bool (by simp [nodeB, h]), (Below.refl _ _).alloc (Nat.le_refl _) _⟩
set_option maxHeartbeats 1000000 in
theorem gnodeX (k v : Int) (hk : k < 1 ∨ 9 < k) (s : ByteArray) (w : World) : Calls Tryz.prog 124 #[.agg #[.int .i64 k, .int .i64 v, .string s]] w fun e w' => e = .returned (.bool (nodeB ⟨k, v, s⟩)) ∧ Below w.heap.size w w' := by
  have h1 : (k == 1) = false := by simp; omega
  have h2 : (k == 2) = false := by simp; omega
  have h3 : (k == 3) = false := by simp; omega
  have h4 : (k == 4) = false := by simp; omega
  have h5 : (k == 5) = false := by simp; omega
  have h6 : (k == 6) = false := by simp; omega
  have h7 : (k == 7) = false := by simp; omega
  have h8 : (k == 8) = false := by simp; omega
  have h9 : (k == 9) = false := by simp; omega
  have hn : nodeB ⟨k, v, s⟩ = false := by
    simp at h1 h2 h3 h4 h5 h6 h7 h8 h9
    simp [nodeB, h1, h2, h3, h4, h5, h6, h7, h8, h9]
  rw [hn]
  clear hk hn
  go_enter Tryz.func124, Tryz.ntmps124
  go_wp2_with fail
  go_ret
  exact ⟨rfl, (Below.refl _ _).alloc (Nat.le_refl _) _⟩
theorem gnode_any (n : Nd) (w : World) : Calls Tryz.prog 124 #[.agg #[.int .i64 n.kind, .int .i64 n.val, .string n.name]] w fun e w' => e = .returned (.bool (nodeB n)) ∧ Below w.heap.size w w' := by
  obtain ⟨k, v, s⟩ := n
  by_cases hx : k < 1 ∨ 9 < k
  · exact gnodeX k v hx s w
  · have : k = 1 ∨ (k = 2 ∨ k = 3) ∨ k = 4 ∨ k = 6 ∨ k = 7 ∨ (k = 5 ∨ k = 8 ∨ k = 9) := by omega
    rcases this with rfl | h | rfl | rfl | rfl | h
    · exact gnode1 v s w
    · exact gnode23 k v h s w
    · exact gnode4 v s w
    · exact gnode6 v s w
    · exact gnode7 v s w
    · exact gnode589 k v h s w
end
end Go.Proofs.YtjhmgjimppflhaaGreatDoor
