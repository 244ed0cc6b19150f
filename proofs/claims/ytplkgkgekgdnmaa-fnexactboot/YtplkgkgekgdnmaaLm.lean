import Derived.Test.YtplkgkgekgdnmaaLt
import Derived.Test.YtplkgkgekgdnmaaBx
namespace Go.Proofs.Ytplkgkgekgdnmaa
open Go.RowKit
set_option linter.unusedVariables false
set_option linter.unusedSimpArgs false

theorem Row.mark {k : IntKind} {W : World} {g off i n : Nat} {zs : List Int} {q z : Int} (h : Row k W g off zs) (hl : zs.length = n) (hi : i < n) (hp : ∀ j, j < i → zs.getD j 0 = k.wrap (q + j)) (hz : z = k.wrap (q + i)) :
    ∃ ys : List Int, ys.length = n ∧ Row k (W.setCell ⟨g, off + i, none⟩ (.int k z)) g off ys ∧ ∀ j, j < i + 1 → ys.getD j 0 = k.wrap (q + j) := by
  refine ⟨zs.set i z, by simpa using hl, ⟨by simpa using h.lt, fun j hj => ?_, fun j => by simpa using h.froz j⟩, fun j hj => ?_⟩
  · simp only [List.length_set] at hj
    by_cases hji : i = j
    · subst hji
      rw [World.cell?_setCell_same _ _ _ (h.cell i (by omega))]
      simp [List.getD, hj]
    · rw [World.cell?_setCell_other _ _ _ _ (by intro e; simp only [Addr.mk.injEq] at e; omega), h.cell j hj]
      simp [List.getD, List.getElem?_set_ne hji]
  · by_cases hji : i = j
    · subst hji
      rw [← hz]
      simp [List.getD, hl, hi]
    · have := hp j (by omega)
      rw [← this]
      simp [List.getD, List.getElem?_set_ne hji]
theorem marks_of {k : IntKind} {q : Int} {n : Nat} {zs : List Int} (hl : zs.length = n) (h : ∀ j, j < n → zs.getD j 0 = k.wrap (q + j)) : zs = marks k q n := by
  apply List.ext_getElem?
  intro j
  by_cases hj : j < n
  · have := h j hj
    simp [List.getD, hl, hj] at this
    simp [marks, hj, hl, this]
  · simp [marks, hl, hj]


set_option maxHeartbeats 1000000 in
theorem mark_u32 (v : Value) (zs : List Int) (q : Int) (w : World) (hl : zs.length ≤ 2097152) (hq : 0 ≤ q ∧ q ≤ 1099511627776) (h : Lis .u32 w v zs) :
    Calls Try.prog 49 #[v, .int .i64 q] w fun e w' => e = .returned (.int .i64 (q + zs.length)) ∧ Lis .u32 w' v (marks .u32 q zs.length) ∧ Tcs (fun g => g ∈ blk v) w w' := by
  rcases h.cases with ⟨rfl, a, cap, rfl⟩ | ⟨hn, g, off, cap, rfl, hR⟩
  · clear h hl
    go_enter Try.func49, Try.ntmps49
    go_wp2
    refine wp_loop_rounds 1 ?_
    rw [rounds_succ]
    go_wp2
    go_ret
    exact ⟨by simp, Lis.nil _ _ _ _, Tcs.refl _ _⟩
  · clear h
    have hsl := blk_some ⟨g, off, none⟩ zs.length cap hn
    have HS : Hid _ := hsl
    clear hsl
    generalize hlen : zs.length = len at *
    have HLN : Hid _ := hlen
    clear hlen
    go_enter Try.func49, Try.ntmps49
    go_wp2
    go_loopw [1, 5] (fun kq i wr => ∃ k : Nat, k ≤ len ∧ i = .int .i64 k ∧ kq = .int .i64 (q + k) ∧ (∃ ys : List Int, ys.length = len ∧ Row .u32 wr g off ys ∧ ∀ j, j < k → ys.getD j 0 = IntKind.u32.wrap (q + j)) ∧ Tcs (fun x => x = g) w wr) (fun _ i _ => len - (intOf i).toNat)
    case atStart => exact ⟨0, Nat.zero_le _, rfl, by simp, ⟨zs, HLN.out, hR, fun j hj => absurd hj (Nat.not_lt_zero _)⟩, Tcs.refl _ _⟩
    case round =>
      obtain ⟨k, hk, rfl, rfl, ⟨ys, hly, hRy, hys⟩, hT⟩ := hrel
      clear hR
      have HY : Hid _ := hys
      have HR : Hid _ := hRy
      have HL : Hid _ := hly
      by_cases hlt : k < len
      · have hc := hRy.cell k (by omega)
        have hf := hRy.froz (off + k)
        clear hys hRy hly
        go_wp2
        go_roundw
        case rel =>
          obtain ⟨xs, h1, h2, h3⟩ := HR.out.mark (q := q) HL.out hlt HY.out (z := (q + k) % 4294967296) (by rw [IntKind.wrap_u32])
          exact ⟨k + 1, by omega, by go_num, by go_num, ⟨xs, h1, h2, h3⟩, hT.setCell rfl _⟩
        case measure => simp [intOf]; omega
      · clear hys hRy hly
        obtain rfl : k = len := by omega
        go_wp2
        go_ret
        have hl' := HLN.out
        subst hl'
        obtain rfl := marks_of HL.out HY.out
        refine ⟨rfl, ⟨_, cap, by simp, fun _ => ⟨g, off, rfl, HR.out⟩⟩, hT.mono fun x hx => ?_⟩
        rw [HS.out]
        simp [hx]


set_option maxHeartbeats 1000000 in
theorem mark_u8 (v : Value) (zs : List Int) (q : Int) (w : World) (hl : zs.length ≤ 2097152) (hq : 0 ≤ q ∧ q ≤ 1099511627776) (h : Lis .u8 w v zs) :
    Calls Try.prog 50 #[v, .int .i64 q] w fun e w' => e = .returned (.int .i64 (q + zs.length)) ∧ Lis .u8 w' v (marks .u8 q zs.length) ∧ Tcs (fun g => g ∈ blk v) w w' := by
  rcases h.cases with ⟨rfl, a, cap, rfl⟩ | ⟨hn, g, off, cap, rfl, hR⟩
  · clear h hl
    go_enter Try.func50, Try.ntmps50
    go_wp2
    refine wp_loop_rounds 1 ?_
    rw [rounds_succ]
    go_wp2
    go_ret
    exact ⟨by simp, Lis.nil _ _ _ _, Tcs.refl _ _⟩
  · clear h
    have hsl := blk_some ⟨g, off, none⟩ zs.length cap hn
    have HS : Hid _ := hsl
    clear hsl
    generalize hlen : zs.length = len at *
    have HLN : Hid _ := hlen
    clear hlen
    go_enter Try.func50, Try.ntmps50
    go_wp2
    go_loopw [1, 5] (fun kq i wr => ∃ k : Nat, k ≤ len ∧ i = .int .i64 k ∧ kq = .int .i64 (q + k) ∧ (∃ ys : List Int, ys.length = len ∧ Row .u8 wr g off ys ∧ ∀ j, j < k → ys.getD j 0 = IntKind.u8.wrap (q + j)) ∧ Tcs (fun x => x = g) w wr) (fun _ i _ => len - (intOf i).toNat)
    case atStart => exact ⟨0, Nat.zero_le _, rfl, by simp, ⟨zs, HLN.out, hR, fun j hj => absurd hj (Nat.not_lt_zero _)⟩, Tcs.refl _ _⟩
    case round =>
      obtain ⟨k, hk, rfl, rfl, ⟨ys, hly, hRy, hys⟩, hT⟩ := hrel
      clear hR
      have HY : Hid _ := hys
      have HR : Hid _ := hRy
      have HL : Hid _ := hly
      by_cases hlt : k < len
      · have hc := hRy.cell k (by omega)
        have hf := hRy.froz (off + k)
        clear hys hRy hly
        go_wp2
        go_roundw
        case rel =>
          obtain ⟨xs, h1, h2, h3⟩ := HR.out.mark (q := q) HL.out hlt HY.out (z := (q + k) % 256) (by rw [IntKind.wrap_u8])
          exact ⟨k + 1, by omega, by go_num, by go_num, ⟨xs, h1, h2, h3⟩, hT.setCell rfl _⟩
        case measure => simp [intOf]; omega
      · clear hys hRy hly
        obtain rfl : k = len := by omega
        go_wp2
        go_ret
        have hl' := HLN.out
        subst hl'
        obtain rfl := marks_of HL.out HY.out
        refine ⟨rfl, ⟨_, cap, by simp, fun _ => ⟨g, off, rfl, HR.out⟩⟩, hT.mono fun x hx => ?_⟩
        rw [HS.out]
        simp [hx]


set_option maxHeartbeats 1000000 in
theorem mark_i64 (v : Value) (zs : List Int) (q : Int) (w : World) (hl : zs.length ≤ 2097152) (hq : 0 ≤ q ∧ q ≤ 1099511627776) (h : Lis .i64 w v zs) :
    Calls Try.prog 28 #[v, .int .i64 q] w fun e w' => e = .returned (.int .i64 (q + zs.length)) ∧ Lis .i64 w' v (marks .i64 q zs.length) ∧ Tcs (fun g => g ∈ blk v) w w' := by
  rcases h.cases with ⟨rfl, a, cap, rfl⟩ | ⟨hn, g, off, cap, rfl, hR⟩
  · clear h hl
    go_enter Try.func28, Try.ntmps28
    go_wp2
    refine wp_loop_rounds 1 ?_
    rw [rounds_succ]
    go_wp2
    go_ret
    exact ⟨by simp, Lis.nil _ _ _ _, Tcs.refl _ _⟩
  · clear h
    have hsl := blk_some ⟨g, off, none⟩ zs.length cap hn
    have HS : Hid _ := hsl
    clear hsl
    generalize hlen : zs.length = len at *
    have HLN : Hid _ := hlen
    clear hlen
    go_enter Try.func28, Try.ntmps28
    go_wp2
    go_loopw [1, 5] (fun kq i wr => ∃ k : Nat, k ≤ len ∧ i = .int .i64 k ∧ kq = .int .i64 (q + k) ∧ (∃ ys : List Int, ys.length = len ∧ Row .i64 wr g off ys ∧ ∀ j, j < k → ys.getD j 0 = IntKind.i64.wrap (q + j)) ∧ Tcs (fun x => x = g) w wr) (fun _ i _ => len - (intOf i).toNat)
    case atStart => exact ⟨0, Nat.zero_le _, rfl, by simp, ⟨zs, HLN.out, hR, fun j hj => absurd hj (Nat.not_lt_zero _)⟩, Tcs.refl _ _⟩
    case round =>
      obtain ⟨k, hk, rfl, rfl, ⟨ys, hly, hRy, hys⟩, hT⟩ := hrel
      clear hR
      have HY : Hid _ := hys
      have HR : Hid _ := hRy
      have HL : Hid _ := hly
      by_cases hlt : k < len
      · have hc := hRy.cell k (by omega)
        have hf := hRy.froz (off + k)
        clear hys hRy hly
        go_wp2
        go_roundw
        case rel =>
          obtain ⟨xs, h1, h2, h3⟩ := HR.out.mark (q := q) HL.out hlt HY.out (z := q + k) (by rw [IntKind.wrap_i64]; omega)
          exact ⟨k + 1, by omega, by go_num, by go_num, ⟨xs, h1, h2, h3⟩, hT.setCell rfl _⟩
        case measure => simp [intOf]; omega
      · clear hys hRy hly
        obtain rfl : k = len := by omega
        go_wp2
        go_ret
        have hl' := HLN.out
        subst hl'
        obtain rfl := marks_of HL.out HY.out
        refine ⟨rfl, ⟨_, cap, by simp, fun _ => ⟨g, off, rfl, HR.out⟩⟩, hT.mono fun x hx => ?_⟩
        rw [HS.out]
        simp [hx]


set_option maxHeartbeats 1000000 in
theorem held_u32 (v : Value) (len : Nat) (q : Int) (w : World) (hl : len ≤ 2097152) (hq : 0 ≤ q ∧ q ≤ 1099511627776) (h : Lis .u32 w v (marks .u32 q len)) :
    Calls Try.prog 51 #[v, .int .i64 q] w fun e w' => e = .returned (.int .i64 (q + len)) ∧ ∃ n, w' = w.drewN n := by
  rcases h.rds.cases with ⟨h0, a, cap, rfl⟩ | ⟨hn, g, off, cap, rfl, _, hc⟩
  · obtain rfl : len = 0 := by have := congrArg List.length h0; simpa using this
    clear h hl
    go_enter Try.func51, Try.ntmps51
    go_wp2
    refine wp_loop_rounds 1 ?_
    rw [rounds_succ]
    go_wp2
    go_ret
    exact ⟨by simp, 0, rfl⟩
  · have hcc : ∀ k : Nat, k < len → w.cell? ⟨g, off + k, none⟩ = some (.int .u32 ((q + k) % 4294967296)) := fun k hk => by
      have h1 := hc k (by simpa using hk)
      have h2 : (marks .u32 q len).getD k 0 = (q + k) % 4294967296 := by rw [marks_getD _ _ _ _ hk]; rw [IntKind.wrap_u32]
      rw [h2] at h1
      exact h1
    simp only [marks_length] at hn ⊢
    clear h hc
    go_enter Try.func51, Try.ntmps51
    go_wp2
    go_loopw [1, 5] (fun kq i wr => ∃ k : Nat, k ≤ len ∧ i = .int .i64 k ∧ kq = .int .i64 (q + k) ∧ ∃ n, wr = w.drewN n) (fun _ i _ => len - (intOf i).toNat)
    case atStart => exact ⟨0, Nat.zero_le _, rfl, by simp, 0, rfl⟩
    case round =>
      obtain ⟨k, hk, rfl, rfl, n, rfl⟩ := hrel
      by_cases hlt : k < len
      · have hx := hcc k hlt
        go_wp2
        go_roundw
        case rel => exact ⟨k + 1, by omega, by go_num, by go_num, n, rfl⟩
        case measure => simp [intOf]; omega
      · obtain rfl : k = len := by omega
        go_wp2
        go_ret
        exact ⟨rfl, n, rfl⟩


set_option maxHeartbeats 1000000 in
theorem held_u8 (v : Value) (len : Nat) (q : Int) (w : World) (hl : len ≤ 2097152) (hq : 0 ≤ q ∧ q ≤ 1099511627776) (h : Lis .u8 w v (marks .u8 q len)) :
    Calls Try.prog 52 #[v, .int .i64 q] w fun e w' => e = .returned (.int .i64 (q + len)) ∧ ∃ n, w' = w.drewN n := by
  rcases h.rds.cases with ⟨h0, a, cap, rfl⟩ | ⟨hn, g, off, cap, rfl, _, hc⟩
  · obtain rfl : len = 0 := by have := congrArg List.length h0; simpa using this
    clear h hl
    go_enter Try.func52, Try.ntmps52
    go_wp2
    refine wp_loop_rounds 1 ?_
    rw [rounds_succ]
    go_wp2
    go_ret
    exact ⟨by simp, 0, rfl⟩
  · have hcc : ∀ k : Nat, k < len → w.cell? ⟨g, off + k, none⟩ = some (.int .u8 ((q + k) % 256)) := fun k hk => by
      have h1 := hc k (by simpa using hk)
      have h2 : (marks .u8 q len).getD k 0 = (q + k) % 256 := by rw [marks_getD _ _ _ _ hk]; rw [IntKind.wrap_u8]
      rw [h2] at h1
      exact h1
    simp only [marks_length] at hn ⊢
    clear h hc
    go_enter Try.func52, Try.ntmps52
    go_wp2
    go_loopw [1, 5] (fun kq i wr => ∃ k : Nat, k ≤ len ∧ i = .int .i64 k ∧ kq = .int .i64 (q + k) ∧ ∃ n, wr = w.drewN n) (fun _ i _ => len - (intOf i).toNat)
    case atStart => exact ⟨0, Nat.zero_le _, rfl, by simp, 0, rfl⟩
    case round =>
      obtain ⟨k, hk, rfl, rfl, n, rfl⟩ := hrel
      by_cases hlt : k < len
      · have hx := hcc k hlt
        go_wp2
        go_roundw
        case rel => exact ⟨k + 1, by omega, by go_num, by go_num, n, rfl⟩
        case measure => simp [intOf]; omega
      · obtain rfl : k = len := by omega
        go_wp2
        go_ret
        exact ⟨rfl, n, rfl⟩


set_option maxHeartbeats 1000000 in
theorem held_i64 (v : Value) (len : Nat) (q : Int) (w : World) (hl : len ≤ 2097152) (hq : 0 ≤ q ∧ q ≤ 1099511627776) (h : Lis .i64 w v (marks .i64 q len)) :
    Calls Try.prog 53 #[v, .int .i64 q] w fun e w' => e = .returned (.int .i64 (q + len)) ∧ ∃ n, w' = w.drewN n := by
  rcases h.rds.cases with ⟨h0, a, cap, rfl⟩ | ⟨hn, g, off, cap, rfl, _, hc⟩
  · obtain rfl : len = 0 := by have := congrArg List.length h0; simpa using this
    clear h hl
    go_enter Try.func53, Try.ntmps53
    go_wp2
    refine wp_loop_rounds 1 ?_
    rw [rounds_succ]
    go_wp2
    go_ret
    exact ⟨by simp, 0, rfl⟩
  · have hcc : ∀ k : Nat, k < len → w.cell? ⟨g, off + k, none⟩ = some (.int .i64 (q + k)) := fun k hk => by
      have h1 := hc k (by simpa using hk)
      have h2 : (marks .i64 q len).getD k 0 = q + k := by rw [marks_getD _ _ _ _ hk]; rw [IntKind.wrap_i64]; omega
      rw [h2] at h1
      exact h1
    simp only [marks_length] at hn ⊢
    clear h hc
    go_enter Try.func53, Try.ntmps53
    go_wp2
    go_loopw [1, 5] (fun kq i wr => ∃ k : Nat, k ≤ len ∧ i = .int .i64 k ∧ kq = .int .i64 (q + k) ∧ ∃ n, wr = w.drewN n) (fun _ i _ => len - (intOf i).toNat)
    case atStart => exact ⟨0, Nat.zero_le _, rfl, by simp, 0, rfl⟩
    case round =>
      obtain ⟨k, hk, rfl, rfl, n, rfl⟩ := hrel
      by_cases hlt : k < len
      · have hx := hcc k hlt
        go_wp2
        go_roundw
        case rel => exact ⟨k + 1, by omega, by go_num, by go_num, n, rfl⟩
        case measure => simp [intOf]; omega
      · obtain rfl : k = len := by omega
        go_wp2
        go_ret
        exact ⟨rfl, n, rfl⟩

end Go.Proofs.Ytplkgkgekgdnmaa
