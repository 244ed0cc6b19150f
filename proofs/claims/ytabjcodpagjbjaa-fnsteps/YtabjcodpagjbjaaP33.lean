import Derived.Test.YtabjcodpagjbjaaP32
import Derived.Test.YtabjcodpagjbjaaRows
import Derived.Test.YtabjcodpagjbjaaP00
import Derived.WalkKit
import Derived.WalkSpells
import Derived.ProofKit
import Derived.Deep.QuietTactic
import Derived.BigQuiet
import Derived.WalkSmall
import Derived.OwnWalk
import Derived.Laws.OwnMore
import Derived.Laws.IdiomStrings
import Derived.Laws.BytesString
namespace Go.Proofs.Ytabjcodpagjbjaa
open Go.RowKit
set_option linter.unusedVariables false
set_option linter.unusedSectionVars false
set_option linter.unusedSimpArgs false
variable [Inhabited Pick]

/-- What a machine's numbers are by their kinds. -/
structure Wf (c : Mc) : Prop where
  ru : ∀ j, j < c.regs.length → 0 ≤ c.regs.getD j 0 ∧ c.regs.getD j 0 ≤ 4294967295
  pcu : 0 ≤ c.pc ∧ c.pc ≤ 4294967295
  lou : 0 ≤ c.low ∧ c.low ≤ 4294967295
  du : ∀ j, j < c.data.length → 0 ≤ c.data.getD j 0 ∧ c.data.getD j 0 ≤ 255
  su : ∀ j, j < c.stack.length → 0 ≤ c.stack.getD j 0 ∧ c.stack.getD j 0 ≤ 255
theorem wrds_at {zs : List Int} (h : wrds zs = true) (j : Nat) (hj : j < zs.length) : -2147483648 ≤ zs.getD j 0 ∧ zs.getD j 0 ≤ 2147483647 := by
  unfold wrds at h
  rw [List.all_eq_true] at h
  have := h (zs.getD j 0) (by simp [List.getD, hj])
  unfold wrd at this
  simpa using this
theorem vimg_of {n : Nat} {d b : Int} (h : vimg n d b = true) : n ≤ 20000 ∧ d ≤ 65536 ∧ b ≤ 1000000 := by
  unfold vimg at h
  simp only [decide_eq_true_eq] at h
  omega
theorem good_of {n : Nat} {d bd : Int} {c : Mc} (hv : vimg n d bd = true) (hg : goodB d bd c = true) (hw : Wf c) : Good c ∧ bd = (c.stack.length : Int) := by
  obtain ⟨g1, g2, g3, g4, g5, g6, g7, g8, g9⟩ := of_decide_eq_true hg
  have h2 := vimg_of hv
  unfold okIn at g5
  simp only [Bool.and_eq_true, decide_eq_true_eq] at g5
  exact ⟨{ r32 := g1, ru := fun j hj => hw.ru j (by omega), r0 := g2, pcu := hw.pcu, lou := hw.lou, dl := by omega, du := hw.du, sl := by omega, su := hw.su, il := g5.1, iu := wrds_at g5.2, ol := by omega, ou := wrds_at g7, st := ⟨g8, g9⟩ }, g4.symm⟩
def stepRes (n : Nat) (d bd : Int) (codes : List Int) (c : Mc) : Mc := if (vimg n d bd && goodB d bd c) = true then (if c.st = 0 then nextM codes bd c else c) else zeroM
theorem sc_any (a : Option Addr) (len cap : Nat) (d bd : Int) (v : Value) (L : List Nat) (c : Mc) (w : World) (hl : len ≤ 1048576) (h : CpuV w v L c) (hs : c.regs.length ≤ 2097152 ∧ c.data.length ≤ 2097152 ∧ c.stack.length ≤ 2097152 ∧ c.inn.length ≤ 2097152 ∧ c.out.length ≤ 2097152) (codes : List Int) (hc : Lis .u32 w (.slice a len cap) codes) (hcu : ∀ j, j < codes.length → 0 ≤ codes.getD j 0 ∧ codes.getD j 0 ≤ 4294967295) (hw : Wf c) :
    Calls Try.prog 11 #[.agg #[.slice a len cap, .int .i64 d, .int .i64 bd], v] w fun e w' => ∃ u, e = .returned u ∧ CpuAt w' w.heap.size u (stepRes len d bd codes c) ∧ Below w.heap.size w w' := by
  unfold stepRes
  cases hv : vimg len d bd with
  | false =>
    rw [if_neg (by simp)]
    exact sc_no1 a len cap d bd v L c w hl h hs hv
  | true =>
    cases hg : goodB d bd c with
    | false =>
      rw [if_neg (by simp)]
      exact sc_no2 a len cap d bd v L c w hl h hs hv hg
    | true =>
      rw [if_pos (by simp)]
      obtain ⟨hG, hmb⟩ := good_of hv hg hw
      have hll := lis_len hc
      have hco : CodesOk codes := ⟨by have := vimg_of hv; omega, hcu⟩
      split
      · rename_i hst
        have hS := nextM_ok codes bd c hG hst hmb hco
        by_cases hp : 4096 ≤ c.pc ∧ (c.pc - 4096) % 4 = 0 ∧ (c.pc - 4096) / 4 < (len : Int)
        · obtain ⟨n, hn⟩ := Int.eq_ofNat_of_zero_le (show 0 ≤ (c.pc - 4096) / 4 by omega)
          exact sc_step1 a len cap d bd v L c w hl h hs hv hg hst codes hc _ hS hco hw.pcu n (by omega) (by omega)
        · exact sc_step0 a len cap d bd v L c w hl h hs hv hg hst codes hc _ hS hco hw.pcu hp
      · rename_i hst
        exact sc_stay a len cap d bd v L c w hl h hs hv hg hst

end Go.Proofs.Ytabjcodpagjbjaa

namespace Go.Proofs.Ytabjcodpagjbjaa
open Go.RowKit
set_option linter.unusedVariables false
set_option linter.unusedSectionVars false
set_option linter.unusedSimpArgs false
variable [Inhabited Pick]

/-- A slice that holds the numbers zs, to be read. -/
def Rds (k : IntKind) (w : World) (v : Value) (zs : List Int) : Prop :=
  ∃ a cap, v = .slice a zs.length cap ∧ (0 < zs.length → ∃ g off, a = some ⟨g, off, none⟩ ∧ g < w.heap.size ∧ ∀ j, j < zs.length → w.cell? ⟨g, off + j, none⟩ = some (.int k (zs.getD j 0)))
theorem Lis.rds {k : IntKind} {w : World} {v : Value} {zs : List Int} (h : Lis k w v zs) : Rds k w v zs := by
  obtain ⟨a, cap, rfl, hr⟩ := h
  refine ⟨a, cap, rfl, fun hn => ?_⟩
  obtain ⟨g, off, e, hR⟩ := hr hn
  exact ⟨g, off, e, hR.lt, hR.cell⟩
theorem Rds.below {k : IntKind} {w w' : World} {v : Value} {zs : List Int} (h : Rds k w v zs) (hb : Below w.heap.size w w') : Rds k w' v zs := by
  obtain ⟨a, cap, rfl, hr⟩ := h
  refine ⟨a, cap, rfl, fun hn => ?_⟩
  obtain ⟨g, off, e, hl, hc⟩ := hr hn
  exact ⟨g, off, e, Nat.lt_of_lt_of_le hl hb.size, fun j hj => (hb.cell (p := ⟨g, off + j, none⟩) hl).trans (hc j hj)⟩
theorem Rds.cases {k : IntKind} {w : World} {v : Value} {zs : List Int} (h : Rds k w v zs) : (zs = [] ∧ ∃ a cap, v = .slice a 0 cap) ∨ (0 < zs.length ∧ ∃ g off cap, v = .slice (some ⟨g, off, none⟩) zs.length cap ∧ g < w.heap.size ∧ ∀ j, j < zs.length → w.cell? ⟨g, off + j, none⟩ = some (.int k (zs.getD j 0))) := by
  obtain ⟨a, cap, rfl, hr⟩ := h
  by_cases hn : 0 < zs.length
  · obtain ⟨g, off, rfl, hR⟩ := hr hn
    exact .inr ⟨hn, g, off, cap, rfl, hR⟩
  · obtain rfl : zs = [] := List.eq_nil_of_length_eq_zero (by omega)
    exact .inl ⟨rfl, a, cap, rfl⟩
theorem eq_map {k : IntKind} {xs : List Value} {zs : List Int} (hl : xs.length = zs.length) (h : ∀ j, j < zs.length → xs[j]? = some (.int k (zs.getD j 0))) : xs = zs.map (Value.int k) := by
  apply List.ext_getElem?
  intro j
  by_cases hj : j < zs.length
  · rw [h j hj]
    simp [List.getD, hj]
  · simp [hl, hj]


set_option maxHeartbeats 1000000 in
theorem to_u32 (v : Value) (zs : List Int) (w : World) (hl : zs.length ≤ 1048576) (h : Rds .u32 w v zs) :
    Calls Try.prog 44 #[v] w fun e w' => ∃ g c, e = .returned (.slice (some ⟨g, 0, none⟩) zs.length c) ∧ w'.ownsRow w.heap.size 30 1 (.slice (some ⟨g, 0, none⟩) zs.length c) zs.length (zs.map (Value.int .u32)) ∧ Below w.heap.size w w' := by
  rcases h.cases with ⟨rfl, a, cap, rfl⟩ | ⟨hn, b, off, cap, rfl, hb, hc⟩
  · have hmk : ∀ w : World, (Instr.makeSlice 23 (.int .i64 0) (.int .i64 0)).run Try.prog w = .ok (.slice (some ⟨w.heap.size, 0, none⟩) 0 0) (w.alloc (.cells #[] 30)) := fun _ => by kernel_rfl
    clear h hl
    go_enter Try.func44, Try.ntmps44
    go_wp2
    refine wp_loop_rounds 1 ?_
    rw [rounds_succ]
    go_wp2
    go_ret
    exact ⟨_, _, rfl, World.ownsRow_lit w #[] 0 (Nat.le_refl _) (by decide) rfl, (Below.refl _ _).alloc (Nat.le_refl _) _⟩
  · clear h
    obtain ⟨i0, hi, hz0, hz1, hz2⟩ := info_parts Try.infu32
    generalize hlen : zs.length = len at *
    have HLN : Hid _ := hlen
    clear hlen
    go_enter Try.func44, Try.ntmps44
    go_wp2_with (at_make; refine wpList_make_full _ rfl _ _ 23 rfl w.heap.size 30 i0 (.int .u32 0) 1 Try.underlying23 hi hz0 hz1 _ _ _ _ len rfl rfl (by omega) (by omega) ?_ ?_ (Nat.le_refl _) ?_)
    · rw [hz2]; omega
    · unfold maxLen; omega
    intro w1 hown1 hgrow1
    have hnx1 : Below w.heap.size w w1 := (Below.refl _ _).grown hgrow1 (Nat.le_refl _) (by simp)
    go_wp2
    go_loopw [4] (fun i wr => ∃ k : Nat, k ≤ len ∧ i = .int .i64 k ∧ (∃ xs : List Value, wr.ownsRow w.heap.size 30 1 (.slice (some ⟨w.heap.size, 0, none⟩) len len) len xs ∧ ∀ j, j < k → xs[j]? = some (.int .u32 (zs.getD j 0))) ∧ Below w.heap.size w wr)
      (fun i _ => len - (intOf i).toNat)
    case atStart => exact ⟨0, Nat.zero_le _, rfl, ⟨_, hown1, fun j hj => absurd hj (Nat.not_lt_zero _)⟩, hnx1⟩
    case round =>
      obtain ⟨k, hk, rfl, ⟨xs, hown, hxs⟩, hnx⟩ := hrel
      clear hown1 hgrow1 hnx1
      by_cases hlt : k < len
      · have hcx := (hnx.cell (p := ⟨b, off + k, none⟩) hb).trans (hc k hlt)
        have hlen : xs.length = len := by have := hown.1; omega
        have hold : wr.cell? ⟨w.heap.size, k, none⟩ = some (xs[k]'(by omega)) := by rw [hown.cellAt k (by omega)]; simp
        have hfz := hown.frozenAt k
        have R := hown.stored k (.int .u32 (zs.getD k 0))
        have HR : Hid _ := R
        have HX : Hid _ := hxs
        clear hxs R hown
        go_wp2
        go_roundw
        case rel =>
          refine ⟨k + 1, by omega, by go_num, ⟨_, HR.out.1, fun j hj => ?_⟩, hnx.setCell (by simp) _⟩
          rw [List.getElem?_set]
          by_cases hjk : k = j
          · subst hjk; simp; omega
          · rw [if_neg hjk]; exact HX.out j (by omega)
        case measure => simp [intOf]; omega
      · have HX : Hid _ := hxs
        have HO : Hid _ := hown
        clear hxs hown
        go_wp2
        go_ret
        have hl' := HLN.out
        obtain rfl := eq_map (k := .u32) (xs := xs) (zs := zs) (by rw [hl']; have := HO.out.1; omega) (fun j hj => HX.out j (by omega))
        exact ⟨_, _, rfl, HO.out, hnx⟩


set_option maxHeartbeats 1000000 in
theorem eq_u32 (v1 v2 : Value) (zs : List Int) (w : World) (hl : zs.length ≤ 2097152) (h1 : Rds .u32 w v1 zs) (h2 : Rds .u32 w v2 zs) :
    Calls Try.prog 45 #[v1, v2] w fun e w' => e = .returned (.bool true) ∧ ∃ n, w' = w.drewN n := by
  rcases h1.cases with ⟨rfl, a1, c1, rfl⟩ | ⟨hn, b1, off1, c1, rfl, _, hc1⟩
  · rcases h2.cases with ⟨_, a2, c2, rfl⟩ | ⟨hn, _⟩
    · clear h1 h2 hl
      go_enter Try.func45, Try.ntmps45
      go_wp2
      refine wp_loop_rounds 1 ?_
      rw [rounds_succ]
      go_wp2
      go_ret
      exact ⟨rfl, 0, rfl⟩
    · simp at hn
  · rcases h2.cases with ⟨rfl, _⟩ | ⟨_, b2, off2, c2, rfl, _, hc2⟩
    · simp at hn
    · clear h1 h2
      generalize hlen : zs.length = len at *
      clear hlen
      go_enter Try.func45, Try.ntmps45
      go_wp2
      go_loopw [5] (fun i wr => ∃ k : Nat, k ≤ len ∧ i = .int .i64 k ∧ ∃ n, wr = w.drewN n) (fun i _ => len - (intOf i).toNat)
      case atStart => exact ⟨0, Nat.zero_le _, rfl, 0, rfl⟩
      case round =>
        obtain ⟨k, hk, rfl, n, rfl⟩ := hrel
        by_cases hlt : k < len
        · have h1 := hc1 k hlt
          have h2 := hc2 k hlt
          go_wp2
          go_quiet (fail)
          go_wp2
          go_roundw
          case rel => exact ⟨k + 1, by omega, by go_num, n + nq, by first | rfl | rw [World.drewN_drewN]⟩
          case measure => simp [intOf]; omega
        · go_wp2
          go_ret
          exact ⟨rfl, n, rfl⟩


set_option maxHeartbeats 1000000 in
theorem eq_u8 (v1 v2 : Value) (zs : List Int) (w : World) (hl : zs.length ≤ 2097152) (h1 : Rds .u8 w v1 zs) (h2 : Rds .u8 w v2 zs) :
    Calls Try.prog 46 #[v1, v2] w fun e w' => e = .returned (.bool true) ∧ ∃ n, w' = w.drewN n := by
  rcases h1.cases with ⟨rfl, a1, c1, rfl⟩ | ⟨hn, b1, off1, c1, rfl, _, hc1⟩
  · rcases h2.cases with ⟨_, a2, c2, rfl⟩ | ⟨hn, _⟩
    · clear h1 h2 hl
      go_enter Try.func46, Try.ntmps46
      go_wp2
      refine wp_loop_rounds 1 ?_
      rw [rounds_succ]
      go_wp2
      go_ret
      exact ⟨rfl, 0, rfl⟩
    · simp at hn
  · rcases h2.cases with ⟨rfl, _⟩ | ⟨_, b2, off2, c2, rfl, _, hc2⟩
    · simp at hn
    · clear h1 h2
      generalize hlen : zs.length = len at *
      clear hlen
      go_enter Try.func46, Try.ntmps46
      go_wp2
      go_loopw [5] (fun i wr => ∃ k : Nat, k ≤ len ∧ i = .int .i64 k ∧ ∃ n, wr = w.drewN n) (fun i _ => len - (intOf i).toNat)
      case atStart => exact ⟨0, Nat.zero_le _, rfl, 0, rfl⟩
      case round =>
        obtain ⟨k, hk, rfl, n, rfl⟩ := hrel
        by_cases hlt : k < len
        · have h1 := hc1 k hlt
          have h2 := hc2 k hlt
          go_wp2
          go_quiet (fail)
          go_wp2
          go_roundw
          case rel => exact ⟨k + 1, by omega, by go_num, n + nq, by first | rfl | rw [World.drewN_drewN]⟩
          case measure => simp [intOf]; omega
        · go_wp2
          go_ret
          exact ⟨rfl, n, rfl⟩


set_option maxHeartbeats 1000000 in
theorem to_i64 (v : Value) (zs : List Int) (w : World) (hl : zs.length ≤ 1048576) (h : Rds .i64 w v zs) :
    Calls Try.prog 15 #[v] w fun e w' => ∃ g c, e = .returned (.slice (some ⟨g, 0, none⟩) zs.length c) ∧ w'.ownsRow w.heap.size 2 1 (.slice (some ⟨g, 0, none⟩) zs.length c) zs.length (zs.map (Value.int .i64)) ∧ Below w.heap.size w w' := by
  rcases h.cases with ⟨rfl, a, cap, rfl⟩ | ⟨hn, b, off, cap, rfl, hb, hc⟩
  · have hmk : ∀ w : World, (Instr.makeSlice 26 (.int .i64 0) (.int .i64 0)).run Try.prog w = .ok (.slice (some ⟨w.heap.size, 0, none⟩) 0 0) (w.alloc (.cells #[] 2)) := fun _ => by kernel_rfl
    clear h hl
    go_enter Try.func15, Try.ntmps15
    go_wp2
    refine wp_loop_rounds 1 ?_
    rw [rounds_succ]
    go_wp2
    go_ret
    exact ⟨_, _, rfl, World.ownsRow_lit w #[] 0 (Nat.le_refl _) (by decide) rfl, (Below.refl _ _).alloc (Nat.le_refl _) _⟩
  · clear h
    obtain ⟨i0, hi, hz0, hz1, hz2⟩ := info_parts Try.infi64
    generalize hlen : zs.length = len at *
    have HLN : Hid _ := hlen
    clear hlen
    go_enter Try.func15, Try.ntmps15
    go_wp2_with (at_make; refine wpList_make_full _ rfl _ _ 26 rfl w.heap.size 2 i0 (.int .i64 0) 1 Try.underlying26 hi hz0 hz1 _ _ _ _ len rfl rfl (by omega) (by omega) ?_ ?_ (Nat.le_refl _) ?_)
    · rw [hz2]; omega
    · unfold maxLen; omega
    intro w1 hown1 hgrow1
    have hnx1 : Below w.heap.size w w1 := (Below.refl _ _).grown hgrow1 (Nat.le_refl _) (by simp)
    go_wp2
    go_loopw [4] (fun i wr => ∃ k : Nat, k ≤ len ∧ i = .int .i64 k ∧ (∃ xs : List Value, wr.ownsRow w.heap.size 2 1 (.slice (some ⟨w.heap.size, 0, none⟩) len len) len xs ∧ ∀ j, j < k → xs[j]? = some (.int .i64 (zs.getD j 0))) ∧ Below w.heap.size w wr)
      (fun i _ => len - (intOf i).toNat)
    case atStart => exact ⟨0, Nat.zero_le _, rfl, ⟨_, hown1, fun j hj => absurd hj (Nat.not_lt_zero _)⟩, hnx1⟩
    case round =>
      obtain ⟨k, hk, rfl, ⟨xs, hown, hxs⟩, hnx⟩ := hrel
      clear hown1 hgrow1 hnx1
      by_cases hlt : k < len
      · have hcx := (hnx.cell (p := ⟨b, off + k, none⟩) hb).trans (hc k hlt)
        have hlen : xs.length = len := by have := hown.1; omega
        have hold : wr.cell? ⟨w.heap.size, k, none⟩ = some (xs[k]'(by omega)) := by rw [hown.cellAt k (by omega)]; simp
        have hfz := hown.frozenAt k
        have R := hown.stored k (.int .i64 (zs.getD k 0))
        have HR : Hid _ := R
        have HX : Hid _ := hxs
        clear hxs R hown
        go_wp2
        go_roundw
        case rel =>
          refine ⟨k + 1, by omega, by go_num, ⟨_, HR.out.1, fun j hj => ?_⟩, hnx.setCell (by simp) _⟩
          rw [List.getElem?_set]
          by_cases hjk : k = j
          · subst hjk; simp; omega
          · rw [if_neg hjk]; exact HX.out j (by omega)
        case measure => simp [intOf]; omega
      · have HX : Hid _ := hxs
        have HO : Hid _ := hown
        clear hxs hown
        go_wp2
        go_ret
        have hl' := HLN.out
        obtain rfl := eq_map (k := .i64) (xs := xs) (zs := zs) (by rw [hl']; have := HO.out.1; omega) (fun j hj => HX.out j (by omega))
        exact ⟨_, _, rfl, HO.out, hnx⟩


set_option maxHeartbeats 1000000 in
theorem eq_i64 (v1 v2 : Value) (zs : List Int) (w : World) (hl : zs.length ≤ 2097152) (h1 : Rds .i64 w v1 zs) (h2 : Rds .i64 w v2 zs) :
    Calls Try.prog 18 #[v1, v2] w fun e w' => e = .returned (.bool true) ∧ ∃ n, w' = w.drewN n := by
  rcases h1.cases with ⟨rfl, a1, c1, rfl⟩ | ⟨hn, b1, off1, c1, rfl, _, hc1⟩
  · rcases h2.cases with ⟨_, a2, c2, rfl⟩ | ⟨hn, _⟩
    · clear h1 h2 hl
      go_enter Try.func18, Try.ntmps18
      go_wp2
      refine wp_loop_rounds 1 ?_
      rw [rounds_succ]
      go_wp2
      go_ret
      exact ⟨rfl, 0, rfl⟩
    · simp at hn
  · rcases h2.cases with ⟨rfl, _⟩ | ⟨_, b2, off2, c2, rfl, _, hc2⟩
    · simp at hn
    · clear h1 h2
      generalize hlen : zs.length = len at *
      clear hlen
      go_enter Try.func18, Try.ntmps18
      go_wp2
      go_loopw [5] (fun i wr => ∃ k : Nat, k ≤ len ∧ i = .int .i64 k ∧ ∃ n, wr = w.drewN n) (fun i _ => len - (intOf i).toNat)
      case atStart => exact ⟨0, Nat.zero_le _, rfl, 0, rfl⟩
      case round =>
        obtain ⟨k, hk, rfl, n, rfl⟩ := hrel
        by_cases hlt : k < len
        · have h1 := hc1 k hlt
          have h2 := hc2 k hlt
          go_wp2
          go_quiet (fail)
          go_wp2
          go_roundw
          case rel => exact ⟨k + 1, by omega, by go_num, n + nq, by first | rfl | rw [World.drewN_drewN]⟩
          case measure => simp [intOf]; omega
        · go_wp2
          go_ret
          exact ⟨rfl, n, rfl⟩

end Go.Proofs.Ytabjcodpagjbjaa

namespace Go.Proofs.Ytabjcodpagjbjaa
open Go.RowKit
set_option linter.unusedVariables false
set_option linter.unusedSectionVars false
set_option linter.unusedSimpArgs false
variable [Inhabited Pick]

def strOf (zs : List Int) : ByteArray := zs.foldl (fun r n => r.push (UInt8.ofNat n.toNat)) ByteArray.empty
theorem conv_str {w : World} {v : Value} {zs : List Int} (h : Rds .u8 w v zs) : (convert 22 9 v).run Try.prog w = .ok (.string (strOf zs)) w := by
  rcases h.cases with ⟨rfl, a, cap, rfl⟩ | ⟨hn, g, off, cap, rfl, _, hc⟩
  · rw [run_convert_bytes_string w 22 9 5 a 0 cap Try.underlying22 Try.underlying5 Try.underlying9]
    cases a with
    | none => simp [Conv.bytesToString, strOf, Sem.run_pure]
    | some a =>
      have := run_bytesToString (P := Try.prog) w a 0 cap [] (by simpa using run_loadCells_list (P := Try.prog) w a [] (by simp))
      exact this
  · rw [run_convert_bytes_string w 22 9 5 _ _ cap Try.underlying22 Try.underlying5 Try.underlying9]
    have hl := run_loadCells_list (P := Try.prog) w ⟨g, off, none⟩ (zs.map (Value.int .u8)) (fun j v hj => by
      have hj' : j < zs.length := by simpa using (List.getElem?_eq_some_iff.1 hj).1
      have e : (⟨g, off, none⟩ : Addr).add j = ⟨g, off + j, none⟩ := by simp only [Addr.add]; split <;> simp_all
      rw [e, hc j hj']
      simp [List.getElem?_eq_getElem hj'] at hj
      rw [← hj]
      simp [List.getD, hj'])
    rw [List.length_map] at hl
    exact run_bytesToString w _ _ cap zs hl
theorem lw_bytes (v1 v2 : Value) (zs : List Int) (w : World) (h1 : Rds .u8 w v1 zs) (h2 : Rds .u8 w v2 zs) :
    Calls Try.prog 30 #[v1, v2] w fun e w' => e = .returned (.bool true) ∧ w' = w := by
  have k1 := conv_str h1
  have k2 := conv_str h2
  clear h1 h2
  go_enter Try.func30, Try.ntmps30
  go_wp2
  go_ret
  exact ⟨by simp, rfl⟩
theorem lw_at0 (v : Value) (zs : List Int) (w : World) (hl : zs.length ≤ 1048576) (hz : ∀ j, j < zs.length → 0 ≤ zs.getD j 0 ∧ zs.getD j 0 ≤ 255) (h : Rds .u8 w v zs) :
    Calls Try.prog 6 #[v, .int .i64 0] w fun e w' => e = .returned (.int .i64 (zs.getD 0 19)) ∧ w' = w := by
  rcases h.cases with ⟨rfl, a, cap, rfl⟩ | ⟨hn, g, off, cap, rfl, _, hc⟩
  · go_enter Try.func6, Try.ntmps6
    go_wp2
    go_ret
    exact ⟨by simp, rfl⟩
  · have h0 := hc 0 hn
    have hb := hz 0 hn
    simp only [Nat.add_zero] at h0
    have e0 : zs.getD 0 19 = zs.getD 0 0 := by cases zs <;> simp at hn ⊢
    rw [e0]
    generalize zs.getD 0 0 = z at *
    clear hc h e0 hz
    go_enter Try.func6, Try.ntmps6
    go_wp2
    go_ret
    exact ⟨by simp, rfl⟩
set_option maxHeartbeats 1000000 in
theorem lw_nums (v1 v2 : Value) (zs : List Int) (w : World) (hl : zs.length ≤ 2097152) (h1 : Rds .i64 w v1 zs) (h2 : Rds .i64 w v2 zs) :
    Calls Try.prog 31 #[v1, v2] w fun e w' => e = .returned (.bool true) ∧ ∃ n, w' = w.drewN n := by
  rcases h1.cases with ⟨rfl, a1, c1, rfl⟩ | ⟨hn, b1, off1, c1, rfl, _, hc1⟩
  · rcases h2.cases with ⟨_, a2, c2, rfl⟩ | ⟨hn, _⟩
    · clear h1 h2 hl
      go_enter Try.func31, Try.ntmps31
      go_wp2
      refine wp_loop_rounds 1 ?_
      rw [rounds_succ]
      go_wp2
      go_ret
      exact ⟨rfl, 0, rfl⟩
    · simp at hn
  · rcases h2.cases with ⟨rfl, _⟩ | ⟨_, b2, off2, c2, rfl, _, hc2⟩
    · simp at hn
    · clear h1 h2
      generalize hlen : zs.length = len at *
      clear hlen
      go_enter Try.func31, Try.ntmps31
      go_wp2
      go_loopw [5] (fun i wr => ∃ k : Nat, k ≤ len ∧ i = .int .i64 k ∧ ∃ n, wr = w.drewN n) (fun i _ => len - (intOf i).toNat)
      case atStart => exact ⟨0, Nat.zero_le _, rfl, 0, rfl⟩
      case round =>
        obtain ⟨k, hk, rfl, n, rfl⟩ := hrel
        by_cases hlt : k < len
        · have h1 := hc1 k hlt
          have h2 := hc2 k hlt
          go_wp2
          go_quiet (fail)
          go_wp2
          go_roundw
          case rel => exact ⟨k + 1, by omega, by go_num, n + nq, by first | rfl | rw [World.drewN_drewN]⟩
          case measure => simp [intOf]; omega
        · go_wp2
          go_ret
          exact ⟨rfl, n, rfl⟩
end Go.Proofs.Ytabjcodpagjbjaa
