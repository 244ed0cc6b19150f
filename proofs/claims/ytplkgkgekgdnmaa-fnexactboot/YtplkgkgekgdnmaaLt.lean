import Derived.Test.YtplkgkgekgdnmaaRows
import Derived.Test.YtplkgkgekgdnmaaLc
import Derived.WalkKit
import Derived.WalkSpells
import Derived.ProofKit
import Derived.Deep.QuietTactic
import Derived.BigQuiet
import Derived.WalkSmall
import Derived.OwnWalk
import Derived.Laws.OwnMore
namespace Go.Proofs.Ytplkgkgekgdnmaa
open Go.RowKit
set_option linter.unusedVariables false
set_option linter.unusedSimpArgs false

/-- A slice that holds the numbers zs, to be read. -/
def Rds (k : IntKind) (w : World) (v : Value) (zs : List Int) : Prop :=
  ∃ a cap, v = .slice a zs.length cap ∧ (0 < zs.length → ∃ g off, a = some ⟨g, off, none⟩ ∧ g < w.heap.size ∧ ∀ j, j < zs.length → w.cell? ⟨g, off + j, none⟩ = some (.int k (zs.getD j 0)))
theorem Lis.rds {k : IntKind} {w : World} {v : Value} {zs : List Int} (h : Lis k w v zs) : Rds k w v zs := by
  obtain ⟨a, cap, rfl, hr⟩ := h
  refine ⟨a, cap, rfl, fun hn => ?_⟩
  obtain ⟨g, off, e, hR⟩ := hr hn
  exact ⟨g, off, e, hR.lt, hR.cell⟩
theorem Rds.below {k : IntKind} {w w' : World} {v : Value} {zs : List Int} (h : Rds k w v zs) (hb : Below w.heap.size w w') : Rds k w' v zs := by
  obtain ⟨a, cap, rfl, hr⟩ := h
  refine ⟨a, cap, rfl, fun hn => ?_⟩
  obtain ⟨g, off, e, hl, hc⟩ := hr hn
  exact ⟨g, off, e, Nat.lt_of_lt_of_le hl hb.size, fun j hj => (hb.cell (p := ⟨g, off + j, none⟩) hl).trans (hc j hj)⟩
theorem Rds.cases {k : IntKind} {w : World} {v : Value} {zs : List Int} (h : Rds k w v zs) : (zs = [] ∧ ∃ a cap, v = .slice a 0 cap) ∨ (0 < zs.length ∧ ∃ g off cap, v = .slice (some ⟨g, off, none⟩) zs.length cap ∧ g < w.heap.size ∧ ∀ j, j < zs.length → w.cell? ⟨g, off + j, none⟩ = some (.int k (zs.getD j 0))) := by
  obtain ⟨a, cap, rfl, hr⟩ := h
  by_cases hn : 0 < zs.length
  · obtain ⟨g, off, rfl, hR⟩ := hr hn
    exact .inr ⟨hn, g, off, cap, rfl, hR⟩
  · obtain rfl : zs = [] := List.eq_nil_of_length_eq_zero (by omega)
    exact .inl ⟨rfl, a, cap, rfl⟩
theorem eq_map {k : IntKind} {xs : List Value} {zs : List Int} (hl : xs.length = zs.length) (h : ∀ j, j < zs.length → xs[j]? = some (.int k (zs.getD j 0))) : xs = zs.map (Value.int k) := by
  apply List.ext_getElem?
  intro j
  by_cases hj : j < zs.length
  · rw [h j hj]
    simp [List.getD, hj]
  · simp [hl, hj]


set_option maxHeartbeats 1000000 in
theorem to_u32 (v : Value) (zs : List Int) (w : World) (hl : zs.length ≤ 1048576) (h : Rds .u32 w v zs) :
    Calls Try.prog 43 #[v] w fun e w' => ∃ g c, e = .returned (.slice (some ⟨g, 0, none⟩) zs.length c) ∧ w'.ownsRow w.heap.size 28 1 (.slice (some ⟨g, 0, none⟩) zs.length c) zs.length (zs.map (Value.int .u32)) ∧ Below w.heap.size w w' := by
  rcases h.cases with ⟨rfl, a, cap, rfl⟩ | ⟨hn, b, off, cap, rfl, hb, hc⟩
  · have hmk : ∀ w : World, (Instr.makeSlice 35 (.int .i64 0) (.int .i64 0)).run Try.prog w = .ok (.slice (some ⟨w.heap.size, 0, none⟩) 0 0) (w.alloc (.cells #[] 28)) := fun _ => by kernel_rfl
    clear h hl
    go_enter Try.func43, Try.ntmps43
    go_wp2
    refine wp_loop_rounds 1 ?_
    rw [rounds_succ]
    go_wp2
    go_ret
    exact ⟨_, _, rfl, World.ownsRow_lit w #[] 0 (Nat.le_refl _) (by decide) rfl, (Below.refl _ _).alloc (Nat.le_refl _) _⟩
  · clear h
    obtain ⟨i0, hi, hz0, hz1, hz2⟩ := info_parts Try.infu32
    generalize hlen : zs.length = len at *
    have HLN : Hid _ := hlen
    clear hlen
    go_enter Try.func43, Try.ntmps43
    go_wp2_with (at_make; refine wpList_make_full _ rfl _ _ 35 rfl w.heap.size 28 i0 (.int .u32 0) 1 Try.underlying35 hi hz0 hz1 _ _ _ _ len rfl rfl (by omega) (by omega) ?_ ?_ (Nat.le_refl _) ?_)
    · rw [hz2]; omega
    · unfold maxLen; omega
    intro w1 hown1 hgrow1
    have hnx1 : Below w.heap.size w w1 := (Below.refl _ _).grown hgrow1 (Nat.le_refl _) (by simp)
    go_wp2
    go_loopw [4] (fun i wr => ∃ k : Nat, k ≤ len ∧ i = .int .i64 k ∧ (∃ xs : List Value, wr.ownsRow w.heap.size 28 1 (.slice (some ⟨w.heap.size, 0, none⟩) len len) len xs ∧ ∀ j, j < k → xs[j]? = some (.int .u32 (zs.getD j 0))) ∧ Below w.heap.size w wr)
      (fun i _ => len - (intOf i).toNat)
    case atStart => exact ⟨0, Nat.zero_le _, rfl, ⟨_, hown1, fun j hj => absurd hj (Nat.not_lt_zero _)⟩, hnx1⟩
    case round =>
      obtain ⟨k, hk, rfl, ⟨xs, hown, hxs⟩, hnx⟩ := hrel
      clear hown1 hgrow1 hnx1
      by_cases hlt : k < len
      · have hcx := (hnx.cell (p := ⟨b, off + k, none⟩) hb).trans (hc k hlt)
        have hlen : xs.length = len := by have := hown.1; omega
        have hold : wr.cell? ⟨w.heap.size, k, none⟩ = some (xs[k]'(by omega)) := by rw [hown.cellAt k (by omega)]; simp
        have hfz := hown.frozenAt k
        have R := hown.stored k (.int .u32 (zs.getD k 0))
        have HR : Hid _ := R
        have HX : Hid _ := hxs
        clear hxs R hown
        go_wp2
        go_roundw
        case rel =>
          refine ⟨k + 1, by omega, by go_num, ⟨_, HR.out.1, fun j hj => ?_⟩, hnx.setCell (by simp) _⟩
          rw [List.getElem?_set]
          by_cases hjk : k = j
          · subst hjk; simp; omega
          · rw [if_neg hjk]; exact HX.out j (by omega)
        case measure => simp [intOf]; omega
      · have HX : Hid _ := hxs
        have HO : Hid _ := hown
        clear hxs hown
        go_wp2
        go_ret
        have hl' := HLN.out
        obtain rfl := eq_map (k := .u32) (xs := xs) (zs := zs) (by rw [hl']; have := HO.out.1; omega) (fun j hj => HX.out j (by omega))
        exact ⟨_, _, rfl, HO.out, hnx⟩


set_option maxHeartbeats 1000000 in
theorem eq_u32 (v1 v2 : Value) (zs : List Int) (w : World) (hl : zs.length ≤ 2097152) (h1 : Rds .u32 w v1 zs) (h2 : Rds .u32 w v2 zs) :
    Calls Try.prog 44 #[v1, v2] w fun e w' => e = .returned (.bool true) ∧ ∃ n, w' = w.drewN n := by
  rcases h1.cases with ⟨rfl, a1, c1, rfl⟩ | ⟨hn, b1, off1, c1, rfl, _, hc1⟩
  · rcases h2.cases with ⟨_, a2, c2, rfl⟩ | ⟨hn, _⟩
    · clear h1 h2 hl
      go_enter Try.func44, Try.ntmps44
      go_wp2
      refine wp_loop_rounds 1 ?_
      rw [rounds_succ]
      go_wp2
      go_ret
      exact ⟨rfl, 0, rfl⟩
    · simp at hn
  · rcases h2.cases with ⟨rfl, _⟩ | ⟨_, b2, off2, c2, rfl, _, hc2⟩
    · simp at hn
    · clear h1 h2
      generalize hlen : zs.length = len at *
      clear hlen
      go_enter Try.func44, Try.ntmps44
      go_wp2
      go_loopw [5] (fun i wr => ∃ k : Nat, k ≤ len ∧ i = .int .i64 k ∧ ∃ n, wr = w.drewN n) (fun i _ => len - (intOf i).toNat)
      case atStart => exact ⟨0, Nat.zero_le _, rfl, 0, rfl⟩
      case round =>
        obtain ⟨k, hk, rfl, n, rfl⟩ := hrel
        by_cases hlt : k < len
        · have h1 := hc1 k hlt
          have h2 := hc2 k hlt
          go_wp2
          go_quiet (fail)
          go_wp2
          go_roundw
          case rel => exact ⟨k + 1, by omega, by go_num, n + nq, by first | rfl | rw [World.drewN_drewN]⟩
          case measure => simp [intOf]; omega
        · go_wp2
          go_ret
          exact ⟨rfl, n, rfl⟩


set_option maxHeartbeats 1000000 in
theorem eq_u8 (v1 v2 : Value) (zs : List Int) (w : World) (hl : zs.length ≤ 2097152) (h1 : Rds .u8 w v1 zs) (h2 : Rds .u8 w v2 zs) :
    Calls Try.prog 48 #[v1, v2] w fun e w' => e = .returned (.bool true) ∧ ∃ n, w' = w.drewN n := by
  rcases h1.cases with ⟨rfl, a1, c1, rfl⟩ | ⟨hn, b1, off1, c1, rfl, _, hc1⟩
  · rcases h2.cases with ⟨_, a2, c2, rfl⟩ | ⟨hn, _⟩
    · clear h1 h2 hl
      go_enter Try.func48, Try.ntmps48
      go_wp2
      refine wp_loop_rounds 1 ?_
      rw [rounds_succ]
      go_wp2
      go_ret
      exact ⟨rfl, 0, rfl⟩
    · simp at hn
  · rcases h2.cases with ⟨rfl, _⟩ | ⟨_, b2, off2, c2, rfl, _, hc2⟩
    · simp at hn
    · clear h1 h2
      generalize hlen : zs.length = len at *
      clear hlen
      go_enter Try.func48, Try.ntmps48
      go_wp2
      go_loopw [5] (fun i wr => ∃ k : Nat, k ≤ len ∧ i = .int .i64 k ∧ ∃ n, wr = w.drewN n) (fun i _ => len - (intOf i).toNat)
      case atStart => exact ⟨0, Nat.zero_le _, rfl, 0, rfl⟩
      case round =>
        obtain ⟨k, hk, rfl, n, rfl⟩ := hrel
        by_cases hlt : k < len
        · have h1 := hc1 k hlt
          have h2 := hc2 k hlt
          go_wp2
          go_quiet (fail)
          go_wp2
          go_roundw
          case rel => exact ⟨k + 1, by omega, by go_num, n + nq, by first | rfl | rw [World.drewN_drewN]⟩
          case measure => simp [intOf]; omega
        · go_wp2
          go_ret
          exact ⟨rfl, n, rfl⟩


set_option maxHeartbeats 1000000 in
theorem to_i64 (v : Value) (zs : List Int) (w : World) (hl : zs.length ≤ 1048576) (h : Rds .i64 w v zs) :
    Calls Try.prog 23 #[v] w fun e w' => ∃ g c, e = .returned (.slice (some ⟨g, 0, none⟩) zs.length c) ∧ w'.ownsRow w.heap.size 2 1 (.slice (some ⟨g, 0, none⟩) zs.length c) zs.length (zs.map (Value.int .i64)) ∧ Below w.heap.size w w' := by
  rcases h.cases with ⟨rfl, a, cap, rfl⟩ | ⟨hn, b, off, cap, rfl, hb, hc⟩
  · have hmk : ∀ w : World, (Instr.makeSlice 44 (.int .i64 0) (.int .i64 0)).run Try.prog w = .ok (.slice (some ⟨w.heap.size, 0, none⟩) 0 0) (w.alloc (.cells #[] 2)) := fun _ => by kernel_rfl
    clear h hl
    go_enter Try.func23, Try.ntmps23
    go_wp2
    refine wp_loop_rounds 1 ?_
    rw [rounds_succ]
    go_wp2
    go_ret
    exact ⟨_, _, rfl, World.ownsRow_lit w #[] 0 (Nat.le_refl _) (by decide) rfl, (Below.refl _ _).alloc (Nat.le_refl _) _⟩
  · clear h
    obtain ⟨i0, hi, hz0, hz1, hz2⟩ := info_parts Try.infi64
    generalize hlen : zs.length = len at *
    have HLN : Hid _ := hlen
    clear hlen
    go_enter Try.func23, Try.ntmps23
    go_wp2_with (at_make; refine wpList_make_full _ rfl _ _ 44 rfl w.heap.size 2 i0 (.int .i64 0) 1 Try.underlying44 hi hz0 hz1 _ _ _ _ len rfl rfl (by omega) (by omega) ?_ ?_ (Nat.le_refl _) ?_)
    · rw [hz2]; omega
    · unfold maxLen; omega
    intro w1 hown1 hgrow1
    have hnx1 : Below w.heap.size w w1 := (Below.refl _ _).grown hgrow1 (Nat.le_refl _) (by simp)
    go_wp2
    go_loopw [4] (fun i wr => ∃ k : Nat, k ≤ len ∧ i = .int .i64 k ∧ (∃ xs : List Value, wr.ownsRow w.heap.size 2 1 (.slice (some ⟨w.heap.size, 0, none⟩) len len) len xs ∧ ∀ j, j < k → xs[j]? = some (.int .i64 (zs.getD j 0))) ∧ Below w.heap.size w wr)
      (fun i _ => len - (intOf i).toNat)
    case atStart => exact ⟨0, Nat.zero_le _, rfl, ⟨_, hown1, fun j hj => absurd hj (Nat.not_lt_zero _)⟩, hnx1⟩
    case round =>
      obtain ⟨k, hk, rfl, ⟨xs, hown, hxs⟩, hnx⟩ := hrel
      clear hown1 hgrow1 hnx1
      by_cases hlt : k < len
      · have hcx := (hnx.cell (p := ⟨b, off + k, none⟩) hb).trans (hc k hlt)
        have hlen : xs.length = len := by have := hown.1; omega
        have hold : wr.cell? ⟨w.heap.size, k, none⟩ = some (xs[k]'(by omega)) := by rw [hown.cellAt k (by omega)]; simp
        have hfz := hown.frozenAt k
        have R := hown.stored k (.int .i64 (zs.getD k 0))
        have HR : Hid _ := R
        have HX : Hid _ := hxs
        clear hxs R hown
        go_wp2
        go_roundw
        case rel =>
          refine ⟨k + 1, by omega, by go_num, ⟨_, HR.out.1, fun j hj => ?_⟩, hnx.setCell (by simp) _⟩
          rw [List.getElem?_set]
          by_cases hjk : k = j
          · subst hjk; simp; omega
          · rw [if_neg hjk]; exact HX.out j (by omega)
        case measure => simp [intOf]; omega
      · have HX : Hid _ := hxs
        have HO : Hid _ := hown
        clear hxs hown
        go_wp2
        go_ret
        have hl' := HLN.out
        obtain rfl := eq_map (k := .i64) (xs := xs) (zs := zs) (by rw [hl']; have := HO.out.1; omega) (fun j hj => HX.out j (by omega))
        exact ⟨_, _, rfl, HO.out, hnx⟩


set_option maxHeartbeats 1000000 in
theorem eq_i64 (v1 v2 : Value) (zs : List Int) (w : World) (hl : zs.length ≤ 2097152) (h1 : Rds .i64 w v1 zs) (h2 : Rds .i64 w v2 zs) :
    Calls Try.prog 26 #[v1, v2] w fun e w' => e = .returned (.bool true) ∧ ∃ n, w' = w.drewN n := by
  rcases h1.cases with ⟨rfl, a1, c1, rfl⟩ | ⟨hn, b1, off1, c1, rfl, _, hc1⟩
  · rcases h2.cases with ⟨_, a2, c2, rfl⟩ | ⟨hn, _⟩
    · clear h1 h2 hl
      go_enter Try.func26, Try.ntmps26
      go_wp2
      refine wp_loop_rounds 1 ?_
      rw [rounds_succ]
      go_wp2
      go_ret
      exact ⟨rfl, 0, rfl⟩
    · simp at hn
  · rcases h2.cases with ⟨rfl, _⟩ | ⟨_, b2, off2, c2, rfl, _, hc2⟩
    · simp at hn
    · clear h1 h2
      generalize hlen : zs.length = len at *
      clear hlen
      go_enter Try.func26, Try.ntmps26
      go_wp2
      go_loopw [5] (fun i wr => ∃ k : Nat, k ≤ len ∧ i = .int .i64 k ∧ ∃ n, wr = w.drewN n) (fun i _ => len - (intOf i).toNat)
      case atStart => exact ⟨0, Nat.zero_le _, rfl, 0, rfl⟩
      case round =>
        obtain ⟨k, hk, rfl, n, rfl⟩ := hrel
        by_cases hlt : k < len
        · have h1 := hc1 k hlt
          have h2 := hc2 k hlt
          go_wp2
          go_quiet (fail)
          go_wp2
          go_roundw
          case rel => exact ⟨k + 1, by omega, by go_num, n + nq, by first | rfl | rw [World.drewN_drewN]⟩
          case measure => simp [intOf]; omega
        · go_wp2
          go_ret
          exact ⟨rfl, n, rfl⟩

end Go.Proofs.Ytplkgkgekgdnmaa
