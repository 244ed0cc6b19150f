import Derived.Test.YtabjcodpagjbjaaP33
import Derived.Test.YtabjcodpagjbjaaP01
import Derived.Test.YtabjcodpagjbjaaP03
namespace Go.Proofs.Ytabjcodpagjbjaa
open Go.RowKit
set_option linter.unusedVariables false
set_option linter.unusedSectionVars false
set_option linter.unusedSimpArgs false
variable [Inhabited Pick]

theorem Row.mark {k : IntKind} {W : World} {g off i n : Nat} {zs : List Int} {q z : Int} (h : Row k W g off zs) (hl : zs.length = n) (hi : i < n) (hp : ∀ j, j < i → zs.getD j 0 = k.wrap (q + j)) (hz : z = k.wrap (q + i)) :
    ∃ ys : List Int, ys.length = n ∧ Row k (W.setCell ⟨g, off + i, none⟩ (.int k z)) g off ys ∧ ∀ j, j < i + 1 → ys.getD j 0 = k.wrap (q + j) := by
  refine ⟨zs.set i z, by simpa using hl, ⟨by simpa using h.lt, fun j hj => ?_, fun j => by simpa using h.froz j⟩, fun j hj => ?_⟩
  · simp only [List.length_set] at hj
    by_cases hji : i = j
    · subst hji
      rw [World.cell?_setCell_same _ _ _ (h.cell i (by omega))]
      simp [List.getD, hj]
    · rw [World.cell?_setCell_other _ _ _ _ (by intro e; simp only [Addr.mk.injEq] at e; omega), h.cell j hj]
      simp [List.getD, List.getElem?_set_ne hji]
  · by_cases hji : i = j
    · subst hji
      rw [← hz]
      simp [List.getD, hl, hi]
    · have := hp j (by omega)
      rw [← this]
      simp [List.getD, List.getElem?_set_ne hji]
theorem marks_of {k : IntKind} {q : Int} {n : Nat} {zs : List Int} (hl : zs.length = n) (h : ∀ j, j < n → zs.getD j 0 = k.wrap (q + j)) : zs = marks k q n := by
  apply List.ext_getElem?
  intro j
  by_cases hj : j < n
  · have := h j hj
    simp [List.getD, hl, hj] at this
    simp [marks, hj, hl, this]
  · simp [marks, hl, hj]


set_option maxHeartbeats 1000000 in
theorem mark_u32 (v : Value) (zs : List Int) (q : Int) (w : World) (hl : zs.length ≤ 2097152) (hq : 0 ≤ q ∧ q ≤ 1099511627776) (h : Lis .u32 w v zs) :
    Calls Try.prog 47 #[v, .int .i64 q] w fun e w' => e = .returned (.int .i64 (q + zs.length)) ∧ Lis .u32 w' v (marks .u32 q zs.length) ∧ Tcs (fun g => g ∈ blk v) w w' := by
  rcases h.cases with ⟨rfl, a, cap, rfl⟩ | ⟨hn, g, off, cap, rfl, hR⟩
  · clear h hl
    go_enter Try.func47, Try.ntmps47
    go_wp2
    refine wp_loop_rounds 1 ?_
    rw [rounds_succ]
    go_wp2
    go_ret
    exact ⟨by simp, Lis.nil _ _ _ _, Tcs.refl _ _⟩
  · clear h
    have hsl := blk_some ⟨g, off, none⟩ zs.length cap hn
    have HS : Hid _ := hsl
    clear hsl
    generalize hlen : zs.length = len at *
    have HLN : Hid _ := hlen
    clear hlen
    go_enter Try.func47, Try.ntmps47
    go_wp2
    go_loopw [1, 5] (fun kq i wr => ∃ k : Nat, k ≤ len ∧ i = .int .i64 k ∧ kq = .int .i64 (q + k) ∧ (∃ ys : List Int, ys.length = len ∧ Row .u32 wr g off ys ∧ ∀ j, j < k → ys.getD j 0 = IntKind.u32.wrap (q + j)) ∧ Tcs (fun x => x = g) w wr) (fun _ i _ => len - (intOf i).toNat)
    case atStart => exact ⟨0, Nat.zero_le _, rfl, by simp, ⟨zs, HLN.out, hR, fun j hj => absurd hj (Nat.not_lt_zero _)⟩, Tcs.refl _ _⟩
    case round =>
      obtain ⟨k, hk, rfl, rfl, ⟨ys, hly, hRy, hys⟩, hT⟩ := hrel
      clear hR
      have HY : Hid _ := hys
      have HR : Hid _ := hRy
      have HL : Hid _ := hly
      by_cases hlt : k < len
      · have hc := hRy.cell k (by omega)
        have hf := hRy.froz (off + k)
        clear hys hRy hly
        go_wp2
        go_roundw
        case rel =>
          obtain ⟨xs, h1, h2, h3⟩ := HR.out.mark (q := q) HL.out hlt HY.out (z := (q + k) % 4294967296) (by rw [IntKind.wrap_u32])
          exact ⟨k + 1, by omega, by go_num, by go_num, ⟨xs, h1, h2, h3⟩, hT.setCell rfl _⟩
        case measure => simp [intOf]; omega
      · clear hys hRy hly
        obtain rfl : k = len := by omega
        go_wp2
        go_ret
        have hl' := HLN.out
        subst hl'
        obtain rfl := marks_of HL.out HY.out
        refine ⟨rfl, ⟨_, cap, by simp, fun _ => ⟨g, off, rfl, HR.out⟩⟩, hT.mono fun x hx => ?_⟩
        rw [HS.out]
        simp [hx]


set_option maxHeartbeats 1000000 in
theorem mark_u8 (v : Value) (zs : List Int) (q : Int) (w : World) (hl : zs.length ≤ 2097152) (hq : 0 ≤ q ∧ q ≤ 1099511627776) (h : Lis .u8 w v zs) :
    Calls Try.prog 48 #[v, .int .i64 q] w fun e w' => e = .returned (.int .i64 (q + zs.length)) ∧ Lis .u8 w' v (marks .u8 q zs.length) ∧ Tcs (fun g => g ∈ blk v) w w' := by
  rcases h.cases with ⟨rfl, a, cap, rfl⟩ | ⟨hn, g, off, cap, rfl, hR⟩
  · clear h hl
    go_enter Try.func48, Try.ntmps48
    go_wp2
    refine wp_loop_rounds 1 ?_
    rw [rounds_succ]
    go_wp2
    go_ret
    exact ⟨by simp, Lis.nil _ _ _ _, Tcs.refl _ _⟩
  · clear h
    have hsl := blk_some ⟨g, off, none⟩ zs.length cap hn
    have HS : Hid _ := hsl
    clear hsl
    generalize hlen : zs.length = len at *
    have HLN : Hid _ := hlen
    clear hlen
    go_enter Try.func48, Try.ntmps48
    go_wp2
    go_loopw [1, 5] (fun kq i wr => ∃ k : Nat, k ≤ len ∧ i = .int .i64 k ∧ kq = .int .i64 (q + k) ∧ (∃ ys : List Int, ys.length = len ∧ Row .u8 wr g off ys ∧ ∀ j, j < k → ys.getD j 0 = IntKind.u8.wrap (q + j)) ∧ Tcs (fun x => x = g) w wr) (fun _ i _ => len - (intOf i).toNat)
    case atStart => exact ⟨0, Nat.zero_le _, rfl, by simp, ⟨zs, HLN.out, hR, fun j hj => absurd hj (Nat.not_lt_zero _)⟩, Tcs.refl _ _⟩
    case round =>
      obtain ⟨k, hk, rfl, rfl, ⟨ys, hly, hRy, hys⟩, hT⟩ := hrel
      clear hR
      have HY : Hid _ := hys
      have HR : Hid _ := hRy
      have HL : Hid _ := hly
      by_cases hlt : k < len
      · have hc := hRy.cell k (by omega)
        have hf := hRy.froz (off + k)
        clear hys hRy hly
        go_wp2
        go_roundw
        case rel =>
          obtain ⟨xs, h1, h2, h3⟩ := HR.out.mark (q := q) HL.out hlt HY.out (z := (q + k) % 256) (by rw [IntKind.wrap_u8])
          exact ⟨k + 1, by omega, by go_num, by go_num, ⟨xs, h1, h2, h3⟩, hT.setCell rfl _⟩
        case measure => simp [intOf]; omega
      · clear hys hRy hly
        obtain rfl : k = len := by omega
        go_wp2
        go_ret
        have hl' := HLN.out
        subst hl'
        obtain rfl := marks_of HL.out HY.out
        refine ⟨rfl, ⟨_, cap, by simp, fun _ => ⟨g, off, rfl, HR.out⟩⟩, hT.mono fun x hx => ?_⟩
        rw [HS.out]
        simp [hx]


set_option maxHeartbeats 1000000 in
theorem mark_i64 (v : Value) (zs : List Int) (q : Int) (w : World) (hl : zs.length ≤ 2097152) (hq : 0 ≤ q ∧ q ≤ 1099511627776) (h : Lis .i64 w v zs) :
    Calls Try.prog 20 #[v, .int .i64 q] w fun e w' => e = .returned (.int .i64 (q + zs.length)) ∧ Lis .i64 w' v (marks .i64 q zs.length) ∧ Tcs (fun g => g ∈ blk v) w w' := by
  rcases h.cases with ⟨rfl, a, cap, rfl⟩ | ⟨hn, g, off, cap, rfl, hR⟩
  · clear h hl
    go_enter Try.func20, Try.ntmps20
    go_wp2
    refine wp_loop_rounds 1 ?_
    rw [rounds_succ]
    go_wp2
    go_ret
    exact ⟨by simp, Lis.nil _ _ _ _, Tcs.refl _ _⟩
  · clear h
    have hsl := blk_some ⟨g, off, none⟩ zs.length cap hn
    have HS : Hid _ := hsl
    clear hsl
    generalize hlen : zs.length = len at *
    have HLN : Hid _ := hlen
    clear hlen
    go_enter Try.func20, Try.ntmps20
    go_wp2
    go_loopw [1, 5] (fun kq i wr => ∃ k : Nat, k ≤ len ∧ i = .int .i64 k ∧ kq = .int .i64 (q + k) ∧ (∃ ys : List Int, ys.length = len ∧ Row .i64 wr g off ys ∧ ∀ j, j < k → ys.getD j 0 = IntKind.i64.wrap (q + j)) ∧ Tcs (fun x => x = g) w wr) (fun _ i _ => len - (intOf i).toNat)
    case atStart => exact ⟨0, Nat.zero_le _, rfl, by simp, ⟨zs, HLN.out, hR, fun j hj => absurd hj (Nat.not_lt_zero _)⟩, Tcs.refl _ _⟩
    case round =>
      obtain ⟨k, hk, rfl, rfl, ⟨ys, hly, hRy, hys⟩, hT⟩ := hrel
      clear hR
      have HY : Hid _ := hys
      have HR : Hid _ := hRy
      have HL : Hid _ := hly
      by_cases hlt : k < len
      · have hc := hRy.cell k (by omega)
        have hf := hRy.froz (off + k)
        clear hys hRy hly
        go_wp2
        go_roundw
        case rel =>
          obtain ⟨xs, h1, h2, h3⟩ := HR.out.mark (q := q) HL.out hlt HY.out (z := q + k) (by rw [IntKind.wrap_i64]; omega)
          exact ⟨k + 1, by omega, by go_num, by go_num, ⟨xs, h1, h2, h3⟩, hT.setCell rfl _⟩
        case measure => simp [intOf]; omega
      · clear hys hRy hly
        obtain rfl : k = len := by omega
        go_wp2
        go_ret
        have hl' := HLN.out
        subst hl'
        obtain rfl := marks_of HL.out HY.out
        refine ⟨rfl, ⟨_, cap, by simp, fun _ => ⟨g, off, rfl, HR.out⟩⟩, hT.mono fun x hx => ?_⟩
        rw [HS.out]
        simp [hx]


set_option maxHeartbeats 1000000 in
theorem held_u32 (v : Value) (len : Nat) (q : Int) (w : World) (hl : len ≤ 2097152) (hq : 0 ≤ q ∧ q ≤ 1099511627776) (h : Lis .u32 w v (marks .u32 q len)) :
    Calls Try.prog 49 #[v, .int .i64 q] w fun e w' => e = .returned (.int .i64 (q + len)) ∧ ∃ n, w' = w.drewN n := by
  rcases h.rds.cases with ⟨h0, a, cap, rfl⟩ | ⟨hn, g, off, cap, rfl, _, hc⟩
  · obtain rfl : len = 0 := by have := congrArg List.length h0; simpa using this
    clear h hl
    go_enter Try.func49, Try.ntmps49
    go_wp2
    refine wp_loop_rounds 1 ?_
    rw [rounds_succ]
    go_wp2
    go_ret
    exact ⟨by simp, 0, rfl⟩
  · have hcc : ∀ k : Nat, k < len → w.cell? ⟨g, off + k, none⟩ = some (.int .u32 ((q + k) % 4294967296)) := fun k hk => by
      have h1 := hc k (by simpa using hk)
      have h2 : (marks .u32 q len).getD k 0 = (q + k) % 4294967296 := by rw [marks_getD _ _ _ _ hk]; rw [IntKind.wrap_u32]
      rw [h2] at h1
      exact h1
    simp only [marks_length] at hn ⊢
    clear h hc
    go_enter Try.func49, Try.ntmps49
    go_wp2
    go_loopw [1, 5] (fun kq i wr => ∃ k : Nat, k ≤ len ∧ i = .int .i64 k ∧ kq = .int .i64 (q + k) ∧ ∃ n, wr = w.drewN n) (fun _ i _ => len - (intOf i).toNat)
    case atStart => exact ⟨0, Nat.zero_le _, rfl, by simp, 0, rfl⟩
    case round =>
      obtain ⟨k, hk, rfl, rfl, n, rfl⟩ := hrel
      by_cases hlt : k < len
      · have hx := hcc k hlt
        go_wp2
        go_roundw
        case rel => exact ⟨k + 1, by omega, by go_num, by go_num, n, rfl⟩
        case measure => simp [intOf]; omega
      · obtain rfl : k = len := by omega
        go_wp2
        go_ret
        exact ⟨rfl, n, rfl⟩


set_option maxHeartbeats 1000000 in
theorem held_u8 (v : Value) (len : Nat) (q : Int) (w : World) (hl : len ≤ 2097152) (hq : 0 ≤ q ∧ q ≤ 1099511627776) (h : Lis .u8 w v (marks .u8 q len)) :
    Calls Try.prog 50 #[v, .int .i64 q] w fun e w' => e = .returned (.int .i64 (q + len)) ∧ ∃ n, w' = w.drewN n := by
  rcases h.rds.cases with ⟨h0, a, cap, rfl⟩ | ⟨hn, g, off, cap, rfl, _, hc⟩
  · obtain rfl : len = 0 := by have := congrArg List.length h0; simpa using this
    clear h hl
    go_enter Try.func50, Try.ntmps50
    go_wp2
    refine wp_loop_rounds 1 ?_
    rw [rounds_succ]
    go_wp2
    go_ret
    exact ⟨by simp, 0, rfl⟩
  · have hcc : ∀ k : Nat, k < len → w.cell? ⟨g, off + k, none⟩ = some (.int .u8 ((q + k) % 256)) := fun k hk => by
      have h1 := hc k (by simpa using hk)
      have h2 : (marks .u8 q len).getD k 0 = (q + k) % 256 := by rw [marks_getD _ _ _ _ hk]; rw [IntKind.wrap_u8]
      rw [h2] at h1
      exact h1
    simp only [marks_length] at hn ⊢
    clear h hc
    go_enter Try.func50, Try.ntmps50
    go_wp2
    go_loopw [1, 5] (fun kq i wr => ∃ k : Nat, k ≤ len ∧ i = .int .i64 k ∧ kq = .int .i64 (q + k) ∧ ∃ n, wr = w.drewN n) (fun _ i _ => len - (intOf i).toNat)
    case atStart => exact ⟨0, Nat.zero_le _, rfl, by simp, 0, rfl⟩
    case round =>
      obtain ⟨k, hk, rfl, rfl, n, rfl⟩ := hrel
      by_cases hlt : k < len
      · have hx := hcc k hlt
        go_wp2
        go_roundw
        case rel => exact ⟨k + 1, by omega, by go_num, by go_num, n, rfl⟩
        case measure => simp [intOf]; omega
      · obtain rfl : k = len := by omega
        go_wp2
        go_ret
        exact ⟨rfl, n, rfl⟩


set_option maxHeartbeats 1000000 in
theorem held_i64 (v : Value) (len : Nat) (q : Int) (w : World) (hl : len ≤ 2097152) (hq : 0 ≤ q ∧ q ≤ 1099511627776) (h : Lis .i64 w v (marks .i64 q len)) :
    Calls Try.prog 51 #[v, .int .i64 q] w fun e w' => e = .returned (.int .i64 (q + len)) ∧ ∃ n, w' = w.drewN n := by
  rcases h.rds.cases with ⟨h0, a, cap, rfl⟩ | ⟨hn, g, off, cap, rfl, _, hc⟩
  · obtain rfl : len = 0 := by have := congrArg List.length h0; simpa using this
    clear h hl
    go_enter Try.func51, Try.ntmps51
    go_wp2
    refine wp_loop_rounds 1 ?_
    rw [rounds_succ]
    go_wp2
    go_ret
    exact ⟨by simp, 0, rfl⟩
  · have hcc : ∀ k : Nat, k < len → w.cell? ⟨g, off + k, none⟩ = some (.int .i64 (q + k)) := fun k hk => by
      have h1 := hc k (by simpa using hk)
      have h2 : (marks .i64 q len).getD k 0 = q + k := by rw [marks_getD _ _ _ _ hk]; rw [IntKind.wrap_i64]; omega
      rw [h2] at h1
      exact h1
    simp only [marks_length] at hn ⊢
    clear h hc
    go_enter Try.func51, Try.ntmps51
    go_wp2
    go_loopw [1, 5] (fun kq i wr => ∃ k : Nat, k ≤ len ∧ i = .int .i64 k ∧ kq = .int .i64 (q + k) ∧ ∃ n, wr = w.drewN n) (fun _ i _ => len - (intOf i).toNat)
    case atStart => exact ⟨0, Nat.zero_le _, rfl, by simp, 0, rfl⟩
    case round =>
      obtain ⟨k, hk, rfl, rfl, n, rfl⟩ := hrel
      by_cases hlt : k < len
      · have hx := hcc k hlt
        go_wp2
        go_roundw
        case rel => exact ⟨k + 1, by omega, by go_num, by go_num, n, rfl⟩
        case measure => simp [intOf]; omega
      · obtain rfl : k = len := by omega
        go_wp2
        go_ret
        exact ⟨rfl, n, rfl⟩

end Go.Proofs.Ytabjcodpagjbjaa

namespace Go.Proofs.Ytabjcodpagjbjaa
open Go.RowKit
set_option linter.unusedVariables false
set_option linter.unusedSectionVars false
set_option linter.unusedSimpArgs false
variable [Inhabited Pick]

/-- A machine of lists that are not too long. -/
def Small (c : Mc) : Prop := c.regs.length ≤ 2097152 ∧ c.data.length ≤ 2097152 ∧ c.stack.length ≤ 2097152 ∧ c.inn.length ≤ 2097152 ∧ c.out.length ≤ 2097152
set_option maxRecDepth 8000 in
set_option maxHeartbeats 1000000 in
theorem eqCpu_any (B1 B2 : Nat) (c : Mc) (v1 v2 : Value) (w : World) (hs : Small c) (h1 : CpuAt w B1 v1 c) (h2 : CpuAt w B2 v2 c) :
    Calls Try.prog 16 #[v1, v2] w fun e w' => e = .returned (.bool true) ∧ Below w.heap.size w w' := by
  obtain ⟨r1, d1, s1, i1, o1, rfl, a1, a2, a3, a4, a5, _, _⟩ := h1
  obtain ⟨r2, d2, s2, i2, o2, rfl, b1, b2, b3, b4, b5, _, _⟩ := h2
  obtain ⟨k1, k2, k3, k4, k5⟩ := hs
  have a5' := (Lis.of_own a5).1
  have b5' := (Lis.of_own b5).1
  obtain ⟨x1, y1, rfl⟩ := a1.len0
  obtain ⟨x2, y2, rfl⟩ := a2.len0
  obtain ⟨x3, y3, rfl⟩ := a3.len0
  obtain ⟨x4, y4, rfl⟩ := a4.len0
  obtain ⟨x5, y5, rfl⟩ := a5'.len0
  obtain ⟨p1, q1, rfl⟩ := b1.len0
  obtain ⟨p2, q2, rfl⟩ := b2.len0
  obtain ⟨p3, q3, rfl⟩ := b3.len0
  obtain ⟨p4, q4, rfl⟩ := b4.len0
  obtain ⟨p5, q5, rfl⟩ := b5'.len0
  have HA : Hid _ := And.intro a1 (And.intro a2 (And.intro a3 (And.intro a4 a5')))
  have HB : Hid _ := And.intro b1 (And.intro b2 (And.intro b3 (And.intro b4 b5')))
  clear a1 a2 a3 a4 a5 a5' b1 b2 b3 b4 b5 b5'
  have HW : Hid (∀ W, Below w.heap.size w W → ∀ {k : IntKind} {v : Value} {zs : List Int}, Lis k w v zs → Rds k W v zs) := fun W hW => fun h => (Lis.below h hW).rds
  have hb0 : Below w.heap.size w ((w.alloc (.cells #[.slice x1 c.regs.length y1, .int .u32 c.pc, .slice x2 c.data.length y2, .slice x3 c.stack.length y3, .slice x4 c.inn.length y4, .slice x5 c.out.length y5, .int .u32 c.low, .int .i64 c.st] 32)).alloc (.cells #[.slice p1 c.regs.length q1, .int .u32 c.pc, .slice p2 c.data.length q2, .slice p3 c.stack.length q3, .slice p4 c.inn.length q4, .slice p5 c.out.length q5, .int .u32 c.low, .int .i64 c.st] 32)) := ((Below.refl _ _).alloc (Nat.le_refl _) _).alloc (by simp) _
  have HN : Hid (∀ n, Below w.heap.size w (World.drewN _ n)) := fun n => below_drewN hb0 n
  clear hb0
  go_enter Try.func16, Try.ntmps16
  go_wp2_with fail
  refine (eq_u32 _ _ c.regs _ k1 (HW.out _ (HN.out 0) HA.out.1) (HW.out _ (HN.out 0) HB.out.1)).mono ?_
  rintro e w1 ⟨rfl, n1, rfl⟩
  go_wp2_with fail
  refine (eq_u8 _ _ c.data _ k2 (HW.out _ (HN.out _) HA.out.2.1) (HW.out _ (HN.out _) HB.out.2.1)).mono ?_
  rintro e w1 ⟨rfl, n2, rfl⟩
  rw [World.drewN_drewN]
  go_wp2_with fail
  refine (eq_u8 _ _ c.stack _ k3 (HW.out _ (HN.out _) HA.out.2.2.1) (HW.out _ (HN.out _) HB.out.2.2.1)).mono ?_
  rintro e w1 ⟨rfl, n3, rfl⟩
  rw [World.drewN_drewN]
  go_wp2_with fail
  refine (eq_i64 _ _ c.inn _ k4 (HW.out _ (HN.out _) HA.out.2.2.2.1) (HW.out _ (HN.out _) HB.out.2.2.2.1)).mono ?_
  rintro e w1 ⟨rfl, n4, rfl⟩
  rw [World.drewN_drewN]
  go_wp2_with fail
  refine (eq_i64 _ _ c.out _ k5 (HW.out _ (HN.out _) HA.out.2.2.2.2) (HW.out _ (HN.out _) HB.out.2.2.2.2)).mono ?_
  rintro e w1 ⟨rfl, n5, rfl⟩
  rw [World.drewN_drewN]
  go_wp2
  go_ret
  exact ⟨rfl, HN.out _⟩

/-- The blocks of a machine's lists. -/
def mblk : Value → List Nat
  | .agg cs => match cs.toList with
    | [r, _, d, s, i, o, _, _] => blk r ++ blk d ++ blk s ++ blk i ++ blk o
    | _ => []
  | _ => []
theorem mblk_eq (r p d s i o l t : Value) : mblk (.agg #[r, p, d, s, i, o, l, t]) = blk r ++ blk d ++ blk s ++ blk i ++ blk o := rfl
theorem CpuAt.mblk {w : World} {B : Nat} {v : Value} {c : Mc} (h : CpuAt w B v c) : ∀ g ∈ mblk v, B ≤ g ∧ g < w.heap.size := by
  obtain ⟨r, d, s, i, o, rfl, a1, a2, a3, a4, a5, _, hB, hk⟩ := h
  have a5' := (Lis.of_own a5).1
  intro g hg
  rw [mblk_eq] at hg
  simp only [List.mem_append] at hg
  refine ⟨?_, ?_⟩
  · refine hB g ?_
    simp only [List.mem_append]
    rcases hg with hg | hg
    · exact .inl hg
    · exact .inr (blk_obk hg)
  · rcases hg with (((hg | hg) | hg) | hg) | hg
    · exact a1.lt g hg
    · exact a2.lt g hg
    · exact a3.lt g hg
    · exact a4.lt g hg
    · exact a5'.lt g hg
theorem CpuAt.shape {w : World} {B : Nat} {v : Value} {c : Mc} (h : CpuAt w B v c) : ∃ x1 y1 x2 y2 x3 y3 x4 y4 x5 y5, v = .agg #[.slice x1 c.regs.length y1, .int .u32 c.pc, .slice x2 c.data.length y2, .slice x3 c.stack.length y3, .slice x4 c.inn.length y4, .slice x5 c.out.length y5, .int .u32 c.low, .int .i64 c.st] := by
  obtain ⟨r, d, s, i, o, rfl, a1, a2, a3, a4, a5, _, hB, hk⟩ := h
  obtain ⟨x1, y1, rfl⟩ := a1.len0
  obtain ⟨x2, y2, rfl⟩ := a2.len0
  obtain ⟨x3, y3, rfl⟩ := a3.len0
  obtain ⟨x4, y4, rfl⟩ := a4.len0
  obtain ⟨x5, y5, rfl⟩ := (Lis.of_own a5).1.len0
  exact ⟨_, _, _, _, _, _, _, _, _, _, rfl⟩
/-- A machine stays where its blocks are not touched. -/
theorem CpuAt.tcs {S : Nat → Prop} {w w' : World} {B : Nat} {v : Value} {c : Mc} (h : CpuAt w B v c) (ht : Tcs S w w') (hn : ∀ g, B ≤ g → g < w.heap.size → ¬ S g) : CpuAt w' B v c := by
  obtain ⟨r, d, s, i, o, rfl, a1, a2, a3, a4, a5, hnd, hB, hk⟩ := h
  have hb : ∀ g, g ∈ blk r ++ blk d ++ blk s ++ blk i ++ obk o → B ≤ g := hB
  refine ⟨r, d, s, i, o, rfl, a1.tcs ht fun g hg => hn g (hb g (by simp [hg])) (a1.lt g hg), a2.tcs ht fun g hg => hn g (hb g (by simp [hg])) (a2.lt g hg), a3.tcs ht fun g hg => hn g (hb g (by simp [hg])) (a3.lt g hg), a4.tcs ht fun g hg => hn g (hb g (by simp [hg])) (a4.lt g hg), ?_, hnd, hB, hk⟩
  exact own_tcs a5 ht fun g hg => hn g (hb g (by simp [hg])) ((own_obk a5).2 g hg).2
theorem CpuAt.below {w w' : World} {B : Nat} {v : Value} {c : Mc} (h : CpuAt w B v c) (hb : Below w.heap.size w w') : CpuAt w' B v c := h.tcs (Below.tcs (S := fun _ => False) hb) (fun _ _ _ f => f)

/-- All blocks of a machine, what is spare of its last list too. -/
def cblk : Value → List Nat
  | .agg cs => match cs.toList with
    | [r, _, d, s, i, o, _, _] => blk r ++ blk d ++ blk s ++ blk i ++ obk o
    | _ => []
  | _ => []
theorem cblk_eq (r p d s i o l t : Value) : cblk (.agg #[r, p, d, s, i, o, l, t]) = blk r ++ blk d ++ blk s ++ blk i ++ obk o := rfl
theorem CpuAt.cblk {w : World} {B : Nat} {v : Value} {c : Mc} (h : CpuAt w B v c) : ∀ g ∈ cblk v, B ≤ g ∧ g < w.heap.size := by
  obtain ⟨r, d, s, i, o, rfl, a1, a2, a3, a4, a5, _, hB, hk⟩ := h
  intro g hg
  rw [cblk_eq] at hg
  refine ⟨hB g hg, ?_⟩
  simp only [List.mem_append] at hg
  rcases hg with (((hg | hg) | hg) | hg) | hg
  · exact a1.lt g hg
  · exact a2.lt g hg
  · exact a3.lt g hg
  · exact a4.lt g hg
  · exact ((own_obk a5).2 g hg).2
theorem mblk_cblk {r p d s i o l t : Value} {g : Nat} (h : g ∈ mblk (.agg #[r, p, d, s, i, o, l, t])) : g ∈ cblk (.agg #[r, p, d, s, i, o, l, t]) := by
  rw [mblk_eq] at h
  rw [cblk_eq]
  simp only [List.mem_append] at h ⊢
  rcases h with h | h
  · exact .inl h
  · exact .inr (blk_obk h)
theorem CpuAt.tcs2 {S : Nat → Prop} {w w' : World} {B : Nat} {v : Value} {c : Mc} (h : CpuAt w B v c) (ht : Tcs S w w') (hn : ∀ g ∈ Go.Proofs.Ytabjcodpagjbjaa.cblk v, ¬ S g) : CpuAt w' B v c := by
  obtain ⟨r, d, s, i, o, rfl, a1, a2, a3, a4, a5, hnd, hB, hk⟩ := h
  rw [cblk_eq] at hn
  exact ⟨r, d, s, i, o, rfl, a1.tcs ht fun g hg => hn g (by simp [hg]), a2.tcs ht fun g hg => hn g (by simp [hg]), a3.tcs ht fun g hg => hn g (by simp [hg]), a4.tcs ht fun g hg => hn g (by simp [hg]), own_tcs a5 ht fun g hg => hn g (by simp [hg]), hnd, hB, hk⟩

/-- A machine whose lists are marked from q on. -/
def MarkAt (w : World) (v : Value) (n1 n2 n3 n4 n5 : Nat) (q : Int) : Prop :=
  ∃ r d s i o, ∃ p l t : Int, v = .agg #[r, .int .u32 p, d, s, i, o, .int .u32 l, .int .i64 t] ∧ Lis .u32 w r (marks .u32 q n1) ∧ Lis .u8 w d (marks .u8 (q + n1) n2) ∧ Lis .u8 w s (marks .u8 (q + n1 + n2) n3) ∧ Lis .i64 w i (marks .i64 (q + n1 + n2 + n3) n4) ∧ Lis .i64 w o (marks .i64 (q + n1 + n2 + n3 + n4) n5)

set_option maxRecDepth 8000 in
set_option maxHeartbeats 1000000 in
theorem markCpu_any (B : Nat) (c : Mc) (v : Value) (q : Int) (w : World) (hs : Small c) (hq : 0 ≤ q ∧ q ≤ 1048576) (h : CpuAt w B v c) :
    Calls Try.prog 21 #[v, .int .i64 q] w fun e w' => e = .returned (.int .i64 (q + c.regs.length + c.data.length + c.stack.length + c.inn.length + c.out.length)) ∧ MarkAt w' v c.regs.length c.data.length c.stack.length c.inn.length c.out.length q ∧ Tcs (fun g => g ∈ mblk v) w w' := by
  obtain ⟨r1, d1, s1, i1, o1, rfl, a1, a2, a3, a4, a5, hnd, hB, hk⟩ := h
  obtain ⟨k1, k2, k3, k4, k5⟩ := hs
  have a5' := (Lis.of_own a5).1
  have hd := hnd
  simp only [List.nodup_append, List.mem_append] at hd
  obtain ⟨⟨⟨⟨_, _, e12⟩, _, e3⟩, _, e4⟩, _, e5⟩ := hd
  have BO : ∀ g, (g ∈ blk r1 ∨ g ∈ blk d1 ∨ g ∈ blk s1 ∨ g ∈ blk i1 ∨ g ∈ blk o1) → B ≤ g ∧ g < w.heap.size := by
    intro g hg
    rcases hg with hg | hg | hg | hg | hg
    · exact ⟨hB g (by simp [hg]), a1.lt g hg⟩
    · exact ⟨hB g (by simp [hg]), a2.lt g hg⟩
    · exact ⟨hB g (by simp [hg]), a3.lt g hg⟩
    · exact ⟨hB g (by simp [hg]), a4.lt g hg⟩
    · exact ⟨hB g (by simp [blk_obk hg]), a5'.lt g hg⟩
  have e5' : ∀ a, (((a ∈ blk r1 ∨ a ∈ blk d1) ∨ a ∈ blk s1) ∨ a ∈ blk i1) → ∀ b ∈ blk o1, a ≠ b := fun a ha b hb => e5 a ha b (blk_obk hb)
  clear e5 hnd hB
  have ne : ∀ (P : Nat → Prop), (∀ g, P g → B ≤ g ∧ g < w.heap.size) → ¬ P w.heap.size := fun P hP h => by have := (hP _ h).2; omega
  obtain ⟨x0, y0, f0⟩ := a1.len0
  obtain ⟨x1, y1, f1⟩ := a2.len0
  obtain ⟨x2, y2, f2⟩ := a3.len0
  obtain ⟨x3, y3, f3⟩ := a4.len0
  obtain ⟨x4, y4, f4⟩ := a5'.len0
  have HA : Hid _ := And.intro a1 (And.intro a2 (And.intro a3 (And.intro a4 a5')))
  have HE : Hid _ := And.intro e12 (And.intro e3 (And.intro e4 e5'))
  have HV : Hid _ := BO
  have HN : Hid _ := ne
  clear a1 a2 a3 a4 a5 a5' e12 e3 e4 e5' BO ne
  subst f0 f1 f2 f3 f4
  have hb0 := (Below.refl w.heap.size w).alloc (Nat.le_refl _) (.cells #[.slice x0 c.regs.length y0, .int .u32 c.pc, .slice x1 c.data.length y1, .slice x2 c.stack.length y2, .slice x3 c.inn.length y3, .slice x4 c.out.length y4, .int .u32 c.low, .int .i64 c.st] 32)
  have bx0 := Bx.of_heap (heap_alloc_new w (.cells #[.slice x0 c.regs.length y0, .int .u32 c.pc, .slice x1 c.data.length y1, .slice x2 c.stack.length y2, .slice x3 c.inn.length y3, .slice x4 c.out.length y4, .int .u32 c.low, .int .i64 c.st] 32))
  go_enter Try.func21, Try.ntmps21
  go_wp2_with fail
  refine (mark_u32 _ c.regs q _ k1 (by omega) (Lis.below HA.out.1 hb0)).mono ?_
  rintro e w1 ⟨rfl, m1, t1⟩
  have bx1 := bx0.keep (t1.block _ (by simp) (HN.out _ fun g hg => HV.out g (.inl hg)))
  have n1 : Lis .u8 w1 _ c.data := (Lis.below HA.out.2.1 hb0).tcs t1 fun g hg hr => HE.out.1 g hr g hg rfl
  have n2 : Lis .u8 w1 _ c.stack := (Lis.below HA.out.2.2.1 hb0).tcs t1 fun g hg hr => HE.out.2.1 g (.inl hr) g hg rfl
  have n3 : Lis .i64 w1 _ c.inn := (Lis.below HA.out.2.2.2.1 hb0).tcs t1 fun g hg hr => HE.out.2.2.1 g (.inl (.inl hr)) g hg rfl
  have n4 : Lis .i64 w1 _ c.out := (Lis.below HA.out.2.2.2.2 hb0).tcs t1 fun g hg hr => HE.out.2.2.2 g (.inl (.inl (.inl hr))) g hg rfl
  have T1 : Tcs (fun g => g ∈ mblk (.agg #[.slice x0 c.regs.length y0, .int .u32 c.pc, .slice x1 c.data.length y1, .slice x2 c.stack.length y2, .slice x3 c.inn.length y3, .slice x4 c.out.length y4, .int .u32 c.low, .int .i64 c.st])) w w1 := ((Tcs.refl _ w).alloc _).trans (t1.mono fun g hg => by rw [mblk_eq]; simp only [List.mem_append]; exact .inl (.inl (.inl (.inl hg))))
  have z2 := bx1.c2
  have G1 : Hid _ := And.intro m1 (And.intro n1 (And.intro n2 (And.intro n3 (And.intro n4 (And.intro bx1 T1)))))
  clear m1 n1 n2 n3 n4 bx1 t1 T1 hb0 bx0
  go_wp2_with fail
  refine (mark_u8 _ c.data _ _ k2 (by omega) G1.out.2.1).mono ?_
  rintro e w2 ⟨rfl, m2, t2⟩
  obtain ⟨m1, n1, n2, n3, n4, bx1, T1⟩ := G1.out
  have bx2 := bx1.keep (t2.block _ bx1.lt (HN.out _ fun g hg => HV.out g (.inr (.inl hg))))
  have m1 := m1.tcs t2 fun g hg hr => HE.out.1 g hg g hr rfl
  have n2 := n2.tcs t2 fun g hg hr => HE.out.2.1 g (.inr hr) g hg rfl
  have n3 := n3.tcs t2 fun g hg hr => HE.out.2.2.1 g (.inl (.inr hr)) g hg rfl
  have n4 := n4.tcs t2 fun g hg hr => HE.out.2.2.2 g (.inl (.inl (.inr hr))) g hg rfl
  have T2 : Tcs (fun g => g ∈ mblk (.agg #[.slice x0 c.regs.length y0, .int .u32 c.pc, .slice x1 c.data.length y1, .slice x2 c.stack.length y2, .slice x3 c.inn.length y3, .slice x4 c.out.length y4, .int .u32 c.low, .int .i64 c.st])) w w2 := T1.trans (t2.mono fun g hg => by rw [mblk_eq]; simp only [List.mem_append]; exact .inl (.inl (.inl (.inr hg))))
  have z3 := bx2.c3
  have G2 : Hid _ := And.intro m1 (And.intro m2 (And.intro n2 (And.intro n3 (And.intro n4 (And.intro bx2 T2)))))
  clear m1 m2 n1 n2 n3 n4 bx1 bx2 t2 T1 T2 z2 G1
  go_wp2_with fail
  refine (mark_u8 _ c.stack _ _ k3 (by omega) G2.out.2.2.1).mono ?_
  rintro e w3 ⟨rfl, m3, t3⟩
  obtain ⟨m1, m2, n2, n3, n4, bx2, T2⟩ := G2.out
  have bx3 := bx2.keep (t3.block _ bx2.lt (HN.out _ fun g hg => HV.out g (.inr (.inr (.inl hg)))))
  have m1 := m1.tcs t3 fun g hg hr => HE.out.2.1 g (.inl hg) g hr rfl
  have m2 := m2.tcs t3 fun g hg hr => HE.out.2.1 g (.inr hg) g hr rfl
  have n3 := n3.tcs t3 fun g hg hr => HE.out.2.2.1 g (.inr hr) g hg rfl
  have n4 := n4.tcs t3 fun g hg hr => HE.out.2.2.2 g (.inl (.inr hr)) g hg rfl
  have T3 : Tcs (fun g => g ∈ mblk (.agg #[.slice x0 c.regs.length y0, .int .u32 c.pc, .slice x1 c.data.length y1, .slice x2 c.stack.length y2, .slice x3 c.inn.length y3, .slice x4 c.out.length y4, .int .u32 c.low, .int .i64 c.st])) w w3 := T2.trans (t3.mono fun g hg => by rw [mblk_eq]; simp only [List.mem_append]; exact .inl (.inl (.inr hg)))
  have z4 := bx3.c4
  have G3 : Hid _ := And.intro m1 (And.intro m2 (And.intro m3 (And.intro n3 (And.intro n4 (And.intro bx3 T3)))))
  clear m1 m2 m3 n2 n3 n4 bx2 bx3 t3 T2 T3 z3 G2
  go_wp2_with fail
  refine (mark_i64 _ c.inn _ _ k4 (by omega) G3.out.2.2.2.1).mono ?_
  rintro e w4 ⟨rfl, m4, t4⟩
  obtain ⟨m1, m2, m3, n3, n4, bx3, T3⟩ := G3.out
  have bx4 := bx3.keep (t4.block _ bx3.lt (HN.out _ fun g hg => HV.out g (.inr (.inr (.inr (.inl hg))))))
  have m1 := m1.tcs t4 fun g hg hr => HE.out.2.2.1 g (.inl (.inl hg)) g hr rfl
  have m2 := m2.tcs t4 fun g hg hr => HE.out.2.2.1 g (.inl (.inr hg)) g hr rfl
  have m3 := m3.tcs t4 fun g hg hr => HE.out.2.2.1 g (.inr hg) g hr rfl
  have n4 := n4.tcs t4 fun g hg hr => HE.out.2.2.2 g (.inr hr) g hg rfl
  have T4 : Tcs (fun g => g ∈ mblk (.agg #[.slice x0 c.regs.length y0, .int .u32 c.pc, .slice x1 c.data.length y1, .slice x2 c.stack.length y2, .slice x3 c.inn.length y3, .slice x4 c.out.length y4, .int .u32 c.low, .int .i64 c.st])) w w4 := T3.trans (t4.mono fun g hg => by rw [mblk_eq]; simp only [List.mem_append]; exact .inl (.inr hg))
  have z5 := bx4.c5
  have G4 : Hid _ := And.intro m1 (And.intro m2 (And.intro m3 (And.intro m4 (And.intro n4 (And.intro bx4 T4)))))
  clear m1 m2 m3 m4 n3 n4 bx3 bx4 t4 T3 T4 z4 G3
  go_wp2_with fail
  refine (mark_i64 _ c.out _ _ k5 (by omega) G4.out.2.2.2.2.1).mono ?_
  rintro e w5 ⟨rfl, m5, t5⟩
  obtain ⟨m1, m2, m3, m4, n4, bx4, T4⟩ := G4.out
  have m1 := m1.tcs t5 fun g hg hr => HE.out.2.2.2 g (.inl (.inl (.inl hg))) g hr rfl
  have m2 := m2.tcs t5 fun g hg hr => HE.out.2.2.2 g (.inl (.inl (.inr hg))) g hr rfl
  have m3 := m3.tcs t5 fun g hg hr => HE.out.2.2.2 g (.inl (.inr hg)) g hr rfl
  have m4 := m4.tcs t5 fun g hg hr => HE.out.2.2.2 g (.inr hg) g hr rfl
  have T5 : Tcs (fun g => g ∈ mblk (.agg #[.slice x0 c.regs.length y0, .int .u32 c.pc, .slice x1 c.data.length y1, .slice x2 c.stack.length y2, .slice x3 c.inn.length y3, .slice x4 c.out.length y4, .int .u32 c.low, .int .i64 c.st])) w w5 := T4.trans (t5.mono fun g hg => by rw [mblk_eq]; simp only [List.mem_append]; exact .inr hg)
  have G5 : Hid _ := And.intro m1 (And.intro m2 (And.intro m3 (And.intro m4 (And.intro m5 T5))))
  clear m1 m2 m3 m4 m5 n4 bx4 t5 T4 T5 z5 G4
  go_wp2
  go_ret
  obtain ⟨m1, m2, m3, m4, m5, T5⟩ := G5.out
  exact ⟨rfl, ⟨_, _, _, _, _, _, _, _, rfl, m1, m2, m3, m4, m5⟩, T5⟩

set_option maxRecDepth 8000 in
set_option maxHeartbeats 1000000 in
theorem heldCpu_any (v : Value) (n1 n2 n3 n4 n5 : Nat) (q : Int) (w : World) (hn : n1 ≤ 2097152 ∧ n2 ≤ 2097152 ∧ n3 ≤ 2097152 ∧ n4 ≤ 2097152 ∧ n5 ≤ 2097152) (hq : 0 ≤ q ∧ q ≤ 1048576) (h : MarkAt w v n1 n2 n3 n4 n5 q) :
    Calls Try.prog 22 #[v, .int .i64 q] w fun e w' => e = .returned (.int .i64 (q + n1 + n2 + n3 + n4 + n5)) ∧ Below w.heap.size w w' := by
  obtain ⟨r, d, s, i, o, p, l, t, rfl, a1, a2, a3, a4, a5⟩ := h
  obtain ⟨k1, k2, k3, k4, k5⟩ := hn
  obtain ⟨x1, y1, rfl⟩ := a1.len0
  obtain ⟨x2, y2, rfl⟩ := a2.len0
  obtain ⟨x3, y3, rfl⟩ := a3.len0
  obtain ⟨x4, y4, rfl⟩ := a4.len0
  obtain ⟨x5, y5, rfl⟩ := a5.len0
  simp only [marks_length] at a1 a2 a3 a4 a5 ⊢
  have HA : Hid _ := And.intro a1 (And.intro a2 (And.intro a3 (And.intro a4 a5)))
  clear a1 a2 a3 a4 a5
  have hb0 := (Below.refl w.heap.size w).alloc (Nat.le_refl _) (.cells #[.slice x1 n1 y1, .int .u32 p, .slice x2 n2 y2, .slice x3 n3 y3, .slice x4 n4 y4, .slice x5 n5 y5, .int .u32 l, .int .i64 t] 32)
  have HN : Hid (∀ n, Below w.heap.size w (World.drewN _ n)) := fun n => below_drewN hb0 n
  have HW : Hid (∀ (n : Nat) {k : IntKind} {v : Value} {zs : List Int}, Lis k w v zs → Lis k (World.drewN _ n) v zs) := fun n => fun h => Lis.below h (below_drewN hb0 n)
  clear hb0
  go_enter Try.func22, Try.ntmps22
  go_wp2_with fail
  refine (held_u32 _ n1 q _ k1 (by omega) (HW.out 0 HA.out.1)).mono ?_
  rintro e w1 ⟨rfl, m1, rfl⟩
  go_wp2_with fail
  refine (held_u8 _ n2 _ _ k2 (by omega) (HW.out _ HA.out.2.1)).mono ?_
  rintro e w1 ⟨rfl, m2, rfl⟩
  rw [World.drewN_drewN]
  go_wp2_with fail
  refine (held_u8 _ n3 _ _ k3 (by omega) (HW.out _ HA.out.2.2.1)).mono ?_
  rintro e w1 ⟨rfl, m3, rfl⟩
  rw [World.drewN_drewN]
  go_wp2_with fail
  refine (held_i64 _ n4 _ _ k4 (by omega) (HW.out _ HA.out.2.2.2.1)).mono ?_
  rintro e w1 ⟨rfl, m4, rfl⟩
  rw [World.drewN_drewN]
  go_wp2_with fail
  refine (held_i64 _ n5 _ _ k5 (by omega) (HW.out _ HA.out.2.2.2.2)).mono ?_
  rintro e w1 ⟨rfl, m5, rfl⟩
  rw [World.drewN_drewN]
  go_wp2
  go_ret
  exact ⟨rfl, HN.out _⟩

set_option maxRecDepth 8000 in
set_option maxHeartbeats 1000000 in
theorem toImage_lis (v : Value) (d bd : Int) (zs : List Int) (w : World) (hl : zs.length ≤ 1048576) (h : Rds .u32 w v zs) :
    Calls Try.prog 14 #[.agg #[v, .int .i64 d, .int .i64 bd]] w fun e w' =>
      ∃ g c, e = .returned (.agg #[.slice (some ⟨g, 0, none⟩) zs.length c, .int .i64 d, .int .i64 bd]) ∧ Lis .u32 w' (.slice (some ⟨g, 0, none⟩) zs.length c) zs ∧ w.heap.size ≤ g ∧ Below w.heap.size w w' := by
  obtain ⟨a, cap, rfl, hr⟩ := id h
  have HR : Hid _ := h
  clear h hr
  have hb0 : Below w.heap.size w (((w.alloc (.cells #[.slice a zs.length cap, .int .i64 d, .int .i64 bd] 38)).alloc (.cells #[.slice none 0 0, .int .i64 0, .int .i64 0] 25)).alloc (.cells #[.slice none 0 0, .int .i64 0, .int .i64 0] 25)) := (((Below.refl _ _).alloc (Nat.le_refl _) _).alloc (by simp) _).alloc (by simp; omega) _
  go_enter Try.func14, Try.ntmps14
  go_wp2_with fail
  refine (to_u32 _ zs _ hl (Rds.below HR.out hb0)).mono ?_
  rintro e w1 ⟨g, c, rfl, ho, hb⟩
  have hg := own_obk ho
  simp only [obk, List.mem_singleton, forall_eq, World.size_alloc] at hg
  have HO : Hid _ := ho
  have hc : ∀ b o, b < w.heap.size + 1 + 1 + 1 → w1.cell? ⟨b, o, none⟩ = _ := fun b o h => hb.cell (p := ⟨b, o, none⟩) (by simpa using h)
  have hf : ∀ b o, b < w.heap.size + 1 + 1 + 1 → w1.frozen? ⟨b, o, none⟩ = _ := fun b o h => hb.frozen (p := ⟨b, o, none⟩) (by simpa using h)
  have s1 := hb.size
  simp only [World.size_alloc] at s1
  have B1 : Below w.heap.size w w1 := hb0.trans (hb.mono (by simp; omega))
  clear ho hb hb0
  go_wp2
  refine bodyPost_ret (v := .agg #[.slice (some ⟨g, 0, none⟩) zs.length c, .int .i64 d, .int .i64 bd]) (by simp [results, Try.results14, go_sem, hc]) rfl ⟨g, c, rfl, ?_, by omega, ?_⟩
  · refine (Lis.of_own HO.out).1.tcs ((((((((Tcs.refl (fun k => k = w.heap.size + 1 ∨ k = w.heap.size + 1 + 1) w1).setCell ?_ _).setCell ?_ _).setCell ?_ _).setCell ?_ _).setCell ?_ _).setCell ?_ _)) ?_
    all_goals first | exact .inl rfl | exact .inr rfl | skip
    intro x hx
    have := blk_obk hx
    simp [obk] at this
    omega
  · exact (((((B1.setCell (by dsimp only; omega) _).setCell (by dsimp only; omega) _).setCell (by dsimp only; omega) _).setCell (by dsimp only; omega) _).setCell (by dsimp only; omega) _).setCell (by dsimp only; omega) _

set_option maxHeartbeats 1000000 in
theorem eqImage_lis (v1 v2 : Value) (d bd : Int) (zs : List Int) (w : World) (hl : zs.length ≤ 1048576) (h1 : Rds .u32 w v1 zs) (h2 : Rds .u32 w v2 zs) :
    Calls Try.prog 17 #[.agg #[v1, .int .i64 d, .int .i64 bd], .agg #[v2, .int .i64 d, .int .i64 bd]] w fun e w' => e = .returned (.bool true) ∧ Below w.heap.size w w' := by
  obtain ⟨a1, c1, rfl, _⟩ := id h1
  obtain ⟨a2, c2, rfl, _⟩ := id h2
  have H1 : Hid _ := h1
  have H2 : Hid _ := h2
  clear h1 h2
  have hB : Below w.heap.size w ((w.alloc (.cells #[.slice a1 zs.length c1, .int .i64 d, .int .i64 bd] 25)).alloc (.cells #[.slice a2 zs.length c2, .int .i64 d, .int .i64 bd] 25)) := ((Below.refl _ _).alloc (Nat.le_refl _) _ |>.alloc (by simp) _)
  go_enter Try.func17, Try.ntmps17
  go_wp2_with fail
  refine (eq_u32 _ _ zs _ (by omega) (Rds.below H1.out hB) (Rds.below H2.out hB)).mono ?_
  rintro e w1 ⟨rfl, n, rfl⟩
  go_wp2
  go_ret
  exact ⟨rfl, below_drewN hB n⟩
set_option maxHeartbeats 1000000 in
theorem markImage_lis (v : Value) (d bd q : Int) (zs : List Int) (w : World) (hl : zs.length ≤ 1048576) (hq : 0 ≤ q ∧ q ≤ 1048576) (h : Lis .u32 w v zs) :
    Calls Try.prog 19 #[.agg #[v, .int .i64 d, .int .i64 bd], .int .i64 q] w fun e w' => e = .returned (.int .i64 (q + zs.length)) ∧ Tcs (fun g => g ∈ blk v) w w' := by
  obtain ⟨a1, c1, rfl⟩ := h.len0
  have H1 : Hid _ := h
  clear h
  have hB : Below w.heap.size w (w.alloc (.cells #[.slice a1 zs.length c1, .int .i64 d, .int .i64 bd] 25)) := ((Below.refl _ _).alloc (Nat.le_refl _) _)
  go_enter Try.func19, Try.ntmps19
  go_wp2_with fail
  refine (mark_u32 _ zs q _ (by omega) (by omega) (Lis.below H1.out hB)).mono ?_
  rintro e w1 ⟨rfl, m1, t1⟩
  have HT : Hid _ := ((Tcs.refl (fun g => g ∈ blk (.slice a1 zs.length c1)) w).alloc _).trans t1
  clear m1 t1
  go_wp2
  go_ret
  exact ⟨rfl, HT.out⟩
theorem sz_yes (a : Option Addr) (len cap : Nat) (d bd : Int) (w : World) (hl : len ≤ 1048576) :
    Calls Try.prog 13 #[.agg #[.slice a len cap, .int .i64 d, .int .i64 bd], .int .i64 1048576] w fun e w' => e = .returned (.int .i64 (1048576 - len)) ∧ Below w.heap.size w w' := by
  go_enter Try.func13, Try.ntmps13
  go_wp2
  go_ret
  exact ⟨rfl, (Below.refl _ _).alloc (Nat.le_refl _) _⟩
theorem sz_no (a : Option Addr) (len cap : Nat) (d bd : Int) (w : World) (hl : 1048576 < len) (hm : len ≤ 9223372036854775807) :
    Calls Try.prog 13 #[.agg #[.slice a len cap, .int .i64 d, .int .i64 bd], .int .i64 1048576] w fun e w' => e = .returned (.int .i64 (-1)) ∧ Below w.heap.size w w' := by
  go_enter Try.func13, Try.ntmps13
  go_wp2
  go_ret
  exact ⟨rfl, (Below.refl _ _).alloc (Nat.le_refl _) _⟩

end Go.Proofs.Ytabjcodpagjbjaa

namespace Go.Proofs.Ytabjcodpagjbjaa
open Go.RowKit
set_option linter.unusedVariables false
set_option linter.unusedSectionVars false
set_option linter.unusedSimpArgs false
variable [Inhabited Pick]
set_option maxRecDepth 8000 in
set_option maxHeartbeats 1000000 in
theorem lwCpu_any (B1 B2 : Nat) (c : Mc) (v1 v2 : Value) (w : World) (hs : Small c) (h1 : CpuAt w B1 v1 c) (h2 : CpuAt w B2 v2 c) :
    Calls Try.prog 8 #[v1, v2] w fun e w' => e = .returned (.bool true) ∧ Below w.heap.size w w' := by
  obtain ⟨r1, d1, s1, i1, o1, rfl, a1, a2, a3, a4, a5, _, _⟩ := h1
  obtain ⟨r2, d2, s2, i2, o2, rfl, b1, b2, b3, b4, b5, _, _⟩ := h2
  obtain ⟨k1, k2, k3, k4, k5⟩ := hs
  have a5' := (Lis.of_own a5).1
  have b5' := (Lis.of_own b5).1
  obtain ⟨x1, y1, rfl⟩ := a1.len0
  obtain ⟨x2, y2, rfl⟩ := a2.len0
  obtain ⟨x3, y3, rfl⟩ := a3.len0
  obtain ⟨x4, y4, rfl⟩ := a4.len0
  obtain ⟨x5, y5, rfl⟩ := a5'.len0
  obtain ⟨p1, q1, rfl⟩ := b1.len0
  obtain ⟨p2, q2, rfl⟩ := b2.len0
  obtain ⟨p3, q3, rfl⟩ := b3.len0
  obtain ⟨p4, q4, rfl⟩ := b4.len0
  obtain ⟨p5, q5, rfl⟩ := b5'.len0
  have HA : Hid _ := And.intro a1.rds (And.intro a2.rds (And.intro a3.rds (And.intro a4.rds a5'.rds)))
  have HB : Hid _ := And.intro b1.rds (And.intro b2.rds (And.intro b3.rds (And.intro b4.rds b5'.rds)))
  clear a1 a2 a3 a4 a5 a5' b1 b2 b3 b4 b5 b5'
  have b0 : Below w.heap.size w ((w.alloc (.cells #[.slice x1 c.regs.length y1, .int .u32 c.pc, .slice x2 c.data.length y2, .slice x3 c.stack.length y3, .slice x4 c.inn.length y4, .slice x5 c.out.length y5, .int .u32 c.low, .int .i64 c.st] 32)).alloc (.cells #[.slice p1 c.regs.length q1, .int .u32 c.pc, .slice p2 c.data.length q2, .slice p3 c.stack.length q3, .slice p4 c.inn.length q4, .slice p5 c.out.length q5, .int .u32 c.low, .int .i64 c.st] 32)) := ((Below.refl _ _).alloc (Nat.le_refl _) _).alloc (by simp) _
  have N0 := Bx.of_heap (heap_alloc_new (w.alloc (.cells #[.slice x1 c.regs.length y1, .int .u32 c.pc, .slice x2 c.data.length y2, .slice x3 c.stack.length y3, .slice x4 c.inn.length y4, .slice x5 c.out.length y5, .int .u32 c.low, .int .i64 c.st] 32)) (.cells #[.slice p1 c.regs.length q1, .int .u32 c.pc, .slice p2 c.data.length q2, .slice p3 c.stack.length q3, .slice p4 c.inn.length q4, .slice p5 c.out.length q5, .int .u32 c.low, .int .i64 c.st] 32))
  have M0 := (Bx.of_heap (heap_alloc_new w (.cells #[.slice x1 c.regs.length y1, .int .u32 c.pc, .slice x2 c.data.length y2, .slice x3 c.stack.length y3, .slice x4 c.inn.length y4, .slice x5 c.out.length y5, .int .u32 c.low, .int .i64 c.st] 32))).alloc (.cells #[.slice p1 c.regs.length q1, .int .u32 c.pc, .slice p2 c.data.length q2, .slice p3 c.stack.length q3, .slice p4 c.inn.length q4, .slice p5 c.out.length q5, .int .u32 c.low, .int .i64 c.st] 32)
  simp only [World.size_alloc] at N0
  go_enter Try.func8, Try.ntmps8
  have HX : Hid _ := And.intro M0 (And.intro N0 b0)
  clear M0 N0 b0
  have HW : Hid (∀ (n : Nat) {k : IntKind} {v : Value} {zs : List Int}, Rds k w v zs → Rds k (World.drewN _ n) v zs) := fun n => fun h => Rds.below h (below_drewN HX.out.2.2 n)
  go_wp2_with fail
  refine (lw_bytes _ _ c.data _ (HW.out 0 HA.out.2.1) (HW.out 0 HB.out.2.1)).mono ?_
  rintro e w1 ⟨rfl, rfl⟩
  go_wp2_with fail
  refine (lw_bytes _ _ c.stack _ (HW.out 0 HA.out.2.2.1) (HW.out 0 HB.out.2.2.1)).mono ?_
  rintro e w1 ⟨rfl, rfl⟩
  go_wp2_with fail
  refine (lw_nums _ _ c.inn _ k4 (HW.out 0 HA.out.2.2.2.1) (HW.out 0 HB.out.2.2.2.1)).mono ?_
  rintro e w1 ⟨rfl, n1, rfl⟩
  go_wp2_with fail
  refine (lw_nums _ _ c.out _ k5 (HW.out _ HA.out.2.2.2.2) (HW.out _ HB.out.2.2.2.2)).mono ?_
  rintro e w1 ⟨rfl, n2, rfl⟩
  rw [World.drewN_drewN]
  obtain ⟨M0, N0, b0⟩ := HX.out
  have R1 := Rds.below HA.out.1 b0
  have R2 := Rds.below HB.out.1 b0
  clear HX HW HA HB
  generalize World.alloc (World.alloc w _) _ = V at M0 N0 b0 R1 R2 ⊢
  have S1 : c.regs.length = 0 ∨ ∃ g off, x1 = some ⟨g, off, none⟩ ∧ ∀ j, j < c.regs.length → V.cell? ⟨g, off + j, none⟩ = some (.int .u32 (c.regs.getD j 0)) := by
    obtain ⟨a, cap, e, hr⟩ := R1
    cases e
    by_cases h : 0 < c.regs.length
    · obtain ⟨g, off, e, _, hc⟩ := hr h
      exact .inr ⟨g, off, e, hc⟩
    · exact .inl (by omega)
  have S2 : c.regs.length = 0 ∨ ∃ g off, p1 = some ⟨g, off, none⟩ ∧ ∀ j, j < c.regs.length → V.cell? ⟨g, off + j, none⟩ = some (.int .u32 (c.regs.getD j 0)) := by
    obtain ⟨a, cap, e, hr⟩ := R2
    cases e
    by_cases h : 0 < c.regs.length
    · obtain ⟨g, off, e, _, hc⟩ := hr h
      exact .inr ⟨g, off, e, hc⟩
    · exact .inl (by omega)
  have HS : Hid _ := And.intro S1 S2
  have c0 := M0.c0
  have c6 := M0.c6
  have c7 := M0.c7
  have e0 := N0.c0
  have e6 := N0.c6
  have e7 := N0.c7
  have HB0 : Hid _ := b0
  clear M0 N0 b0 R1 R2 S1 S2
  go_wp2
  clear c6 c7 e6 e7
  go_loopw [5] (fun i wr => ∃ k : Nat, k ≤ c.regs.length ∧ i = .int .i64 k ∧ ∃ n, wr = V.drewN n) (fun i _ => c.regs.length - (intOf i).toNat)
  case atStart => exact ⟨0, Nat.zero_le _, rfl, _, rfl⟩
  case round =>
    obtain ⟨k, hk, rfl, n, rfl⟩ := hrel
    by_cases hlt : k < c.regs.length
    · obtain ⟨h1, h2⟩ := HS.out
      rcases h1 with h1 | ⟨g, off, rfl, hc1⟩
      · omega
      rcases h2 with h2 | ⟨g', off', rfl, hc2⟩
      · omega
      have h1 := hc1 k hlt
      have h2 := hc2 k hlt
      clear hc1 hc2 HS
      go_wp2
      go_quiet (fail)
      go_wp2
      go_roundw
      case rel => exact ⟨k + 1, by omega, by go_num, n + nq, by first | rfl | rw [World.drewN_drewN]⟩
      case measure => simp [intOf]; omega
    · go_wp2
      go_ret
      exact ⟨rfl, below_drewN HB0.out n⟩
end Go.Proofs.Ytabjcodpagjbjaa
