import Derived.Test.YtabjcodpagjbjaaM08
import Derived.Deep.RegionHeld3
import Derived.Test.YtabjcodpagjbjaaM07
namespace Go.Proofs.Ytabjcodpagjbjaa
open Go.RowKit
set_option linter.unusedVariables false
def ocL : List Int := [0, 55, 111, 103, 99, 99, 99, 99, 99, 99, 3, 35, 19, 19, 19, 19, 19, 19, 19, 19, 19, 51, 51, 51, 51, 51, 51, 51, 51, 51, 51, 51, 51, 51, 115]
def f3L : List Int := [0, 0, 0, 0, 0, 1, 4, 5, 6, 7, 2, 2, 0, 2, 3, 4, 6, 7, 1, 5, 5, 0, 0, 1, 2, 3, 4, 5, 5, 6, 7, 0, 4, 6, 0]
def f7L : List Int := [0, 0, 0, 0, 0, 0, 0, 0, 0, 0, 0, 0, 0, 0, 0, 0, 0, 0, 0, 0, 32, 0, 32, 0, 0, 0, 0, 0, 32, 0, 0, 1, 1, 1, 0]
def oc (op : Int) : Int := ocL.getD op.toNat 0
def f3 (op : Int) : Int := f3L.getD op.toNat 0
def f7 (op : Int) : Int := f7L.getD op.toNat 0
theorem getD_bd (l : List Int) (m : Int) (hm : 0 ≤ m) (h : ∀ n, n < l.length → 0 ≤ l.getD n 0 ∧ l.getD n 0 ≤ m) (n : Nat) : 0 ≤ l.getD n 0 ∧ l.getD n 0 ≤ m := by
  by_cases hn : n < l.length
  · exact h n hn
  · have e : l.getD n 0 = 0 := by simp [List.getD, List.getElem?_eq_none (show l.length ≤ n by omega)]
    rw [e]; omega
theorem oc_bd (op : Int) : 0 ≤ oc op ∧ oc op ≤ 127 := getD_bd ocL 127 (by decide) (by decide) _
theorem f3_bd (op : Int) : 0 ≤ f3 op ∧ f3 op ≤ 7 := getD_bd f3L 7 (by decide) (by decide) _
theorem f7_bd (op : Int) : 0 ≤ f7 op ∧ f7 op ≤ 127 := getD_bd f7L 127 (by decide) (by decide) _
theorem oc_pos (op : Int) (h : 1 ≤ op ∧ op ≤ 34) : 0 < oc op := by
  have : ∀ n : Nat, n < 35 → 0 < n → 0 < ocL.getD n 0 := by decide
  exact this op.toNat (by omega) (by omega)
theorem shapeU (op : Int) (w : World) (h : op = 1) :
    Calls Try.prog 53 #[.int .i64 op] w fun e w' => e = .returned (.int .u8 85) ∧ w' = w := by
  go_enter Try.func53, Try.ntmps53
  go_wp2
  go_ret
  exact ⟨rfl, rfl⟩
theorem boundsU (op : Int) (w : World) (h : op = 1) :
    Calls Try.prog 84 #[.int .i64 op] w fun e w' => e = .returned (.tuple #[.int .i64 (0), .int .i64 (1048575)]) ∧ w' = w := by
  have HH : Hid _ := h
  clear h
  go_enter Try.func84, Try.ntmps84
  go_wp2_with (go_at_call 53; refine (shapeU _ _ HH.out).mono ?_; rintro e w' ⟨rfl, rfl⟩)
  go_ret2
  exact ⟨rfl, rfl⟩
theorem shapeJ (op : Int) (w : World) (h : op = 2) :
    Calls Try.prog 53 #[.int .i64 op] w fun e w' => e = .returned (.int .u8 74) ∧ w' = w := by
  go_enter Try.func53, Try.ntmps53
  go_wp2
  go_ret
  exact ⟨rfl, rfl⟩
theorem boundsJ (op : Int) (w : World) (h : op = 2) :
    Calls Try.prog 84 #[.int .i64 op] w fun e w' => e = .returned (.tuple #[.int .i64 (-1048576), .int .i64 (1048574)]) ∧ w' = w := by
  have HH : Hid _ := h
  clear h
  go_enter Try.func84, Try.ntmps84
  go_wp2_with (go_at_call 53; refine (shapeJ _ _ HH.out).mono ?_; rintro e w' ⟨rfl, rfl⟩)
  go_ret2
  exact ⟨rfl, rfl⟩
theorem shapeB (op : Int) (w : World) (h : 4 ≤ op ∧ op ≤ 9) :
    Calls Try.prog 53 #[.int .i64 op] w fun e w' => e = .returned (.int .u8 66) ∧ w' = w := by
  go_enter Try.func53, Try.ntmps53
  go_wp2
  go_ret
  exact ⟨rfl, rfl⟩
theorem boundsB (op : Int) (w : World) (h : 4 ≤ op ∧ op ≤ 9) :
    Calls Try.prog 84 #[.int .i64 op] w fun e w' => e = .returned (.tuple #[.int .i64 (-4096), .int .i64 (4094)]) ∧ w' = w := by
  have HH : Hid _ := h
  clear h
  go_enter Try.func84, Try.ntmps84
  go_wp2_with (go_at_call 53; refine (shapeB _ _ HH.out).mono ?_; rintro e w' ⟨rfl, rfl⟩)
  go_ret2
  exact ⟨rfl, rfl⟩
theorem shapeS (op : Int) (w : World) (h : op = 11) :
    Calls Try.prog 53 #[.int .i64 op] w fun e w' => e = .returned (.int .u8 83) ∧ w' = w := by
  go_enter Try.func53, Try.ntmps53
  go_wp2
  go_ret
  exact ⟨rfl, rfl⟩
theorem boundsS (op : Int) (w : World) (h : op = 11) :
    Calls Try.prog 84 #[.int .i64 op] w fun e w' => e = .returned (.tuple #[.int .i64 (-2048), .int .i64 (2047)]) ∧ w' = w := by
  have HH : Hid _ := h
  clear h
  go_enter Try.func84, Try.ntmps84
  go_wp2_with (go_at_call 53; refine (shapeS _ _ HH.out).mono ?_; rintro e w' ⟨rfl, rfl⟩)
  go_ret2
  exact ⟨rfl, rfl⟩
theorem shapeH (op : Int) (w : World) (h : 18 ≤ op ∧ op ≤ 20) :
    Calls Try.prog 53 #[.int .i64 op] w fun e w' => e = .returned (.int .u8 72) ∧ w' = w := by
  go_enter Try.func53, Try.ntmps53
  go_wp2
  go_ret
  exact ⟨rfl, rfl⟩
theorem boundsH (op : Int) (w : World) (h : 18 ≤ op ∧ op ≤ 20) :
    Calls Try.prog 84 #[.int .i64 op] w fun e w' => e = .returned (.tuple #[.int .i64 (0), .int .i64 (31)]) ∧ w' = w := by
  have HH : Hid _ := h
  clear h
  go_enter Try.func84, Try.ntmps84
  go_wp2_with (go_at_call 53; refine (shapeH _ _ HH.out).mono ?_; rintro e w' ⟨rfl, rfl⟩)
  go_ret2
  exact ⟨rfl, rfl⟩
theorem shapeR (op : Int) (w : World) (h : 21 ≤ op ∧ op ≤ 33) :
    Calls Try.prog 53 #[.int .i64 op] w fun e w' => e = .returned (.int .u8 82) ∧ w' = w := by
  go_enter Try.func53, Try.ntmps53
  go_wp2
  go_ret
  exact ⟨rfl, rfl⟩
theorem boundsR (op : Int) (w : World) (h : 21 ≤ op ∧ op ≤ 33) :
    Calls Try.prog 84 #[.int .i64 op] w fun e w' => e = .returned (.tuple #[.int .i64 (0), .int .i64 (0)]) ∧ w' = w := by
  have HH : Hid _ := h
  clear h
  go_enter Try.func84, Try.ntmps84
  go_wp2_with (go_at_call 53; refine (shapeR _ _ HH.out).mono ?_; rintro e w' ⟨rfl, rfl⟩)
  go_ret2
  exact ⟨rfl, rfl⟩
theorem shapeE (op : Int) (w : World) (h : op = 34) :
    Calls Try.prog 53 #[.int .i64 op] w fun e w' => e = .returned (.int .u8 69) ∧ w' = w := by
  go_enter Try.func53, Try.ntmps53
  go_wp2
  go_ret
  exact ⟨rfl, rfl⟩
theorem boundsE (op : Int) (w : World) (h : op = 34) :
    Calls Try.prog 84 #[.int .i64 op] w fun e w' => e = .returned (.tuple #[.int .i64 (0), .int .i64 (0)]) ∧ w' = w := by
  have HH : Hid _ := h
  clear h
  go_enter Try.func84, Try.ntmps84
  go_wp2_with (go_at_call 53; refine (shapeE _ _ HH.out).mono ?_; rintro e w' ⟨rfl, rfl⟩)
  go_ret2
  exact ⟨rfl, rfl⟩
theorem shapeI (op : Int) (w : World) (h : op = 3 ∨ op = 10 ∨ (12 ≤ op ∧ op ≤ 17)) :
    Calls Try.prog 53 #[.int .i64 op] w fun e w' => e = .returned (.int .u8 73) ∧ w' = w := by
  rcases h with h | h | h
  all_goals
    go_enter Try.func53, Try.ntmps53
    go_wp2
    go_ret
    exact ⟨rfl, rfl⟩
theorem boundsI (op : Int) (w : World) (h : op = 3 ∨ op = 10 ∨ (12 ≤ op ∧ op ≤ 17)) :
    Calls Try.prog 84 #[.int .i64 op] w fun e w' => e = .returned (.tuple #[.int .i64 (-2048), .int .i64 (2047)]) ∧ w' = w := by
  have HH : Hid _ := h
  clear h
  go_enter Try.func84, Try.ntmps84
  go_wp2_with (go_at_call 53; refine (shapeI _ _ HH.out).mono ?_; rintro e w' ⟨rfl, rfl⟩)
  go_ret2
  exact ⟨rfl, rfl⟩
def btL : List (Int × Int × Int) := [(0, 11, 20), (0, 4, 7), (5, 11, 25), (11, 11, 7), (1, 4, 8), (5, 10, 25), (12, 12, 31), (12, 19, 12), (11, 11, 20), (1, 10, 21), (20, 20, 31)]
def ptL : List (Int × Int × Int) := [(7, 11, 0), (15, 19, 0), (20, 24, 0), (20, 31, 0), (25, 31, 5), (7, 7, 11), (8, 11, 1), (25, 30, 5), (31, 31, 12), (12, 31, 0), (12, 19, 12), (20, 20, 11), (21, 30, 1), (31, 31, 20)]
set_option maxHeartbeats 1000000 in
theorem bits_any (x lo hi a : Int) (w : World) (h : (lo, hi, a) ∈ btL) :
    Calls Try.prog 70 #[.int .i64 x, .int .i64 lo, .int .i64 hi, .int .i64 a] w fun e w' => e = .returned (.int .u32 (mvi (x % 4294967296) lo (hi - lo + 1) a)) ∧ w' = w := by
  simp only [btL, List.mem_cons, Prod.mk.injEq, List.not_mem_nil, or_false] at h
  rcases h with ⟨rfl, rfl, rfl⟩ | ⟨rfl, rfl, rfl⟩ | ⟨rfl, rfl, rfl⟩ | ⟨rfl, rfl, rfl⟩ | ⟨rfl, rfl, rfl⟩ | ⟨rfl, rfl, rfl⟩ | ⟨rfl, rfl, rfl⟩ | ⟨rfl, rfl, rfl⟩ | ⟨rfl, rfl, rfl⟩ | ⟨rfl, rfl, rfl⟩ | ⟨rfl, rfl, rfl⟩
  all_goals
    go_enter Try.func70, Try.ntmps70
    go_wp2
    go_ret
    exact ⟨ret_int (by unfold mvi; simp only [Int.reduceSub, Int.reduceAdd, Int.reduceToNat, Int.reducePow]; omega), rfl⟩
set_option maxHeartbeats 1000000 in
theorem part_any (x lo hi a : Int) (w : World) (h0 : 0 ≤ x ∧ x ≤ 4294967295) (h : (lo, hi, a) ∈ ptL) :
    Calls Try.prog 89 #[.int .u32 x, .int .i64 lo, .int .i64 hi, .int .i64 a] w fun e w' => e = .returned (.int .i64 (mvi x lo (hi - lo + 1) a)) ∧ w' = w := by
  simp only [ptL, List.mem_cons, Prod.mk.injEq, List.not_mem_nil, or_false] at h
  rcases h with ⟨rfl, rfl, rfl⟩ | ⟨rfl, rfl, rfl⟩ | ⟨rfl, rfl, rfl⟩ | ⟨rfl, rfl, rfl⟩ | ⟨rfl, rfl, rfl⟩ | ⟨rfl, rfl, rfl⟩ | ⟨rfl, rfl, rfl⟩ | ⟨rfl, rfl, rfl⟩ | ⟨rfl, rfl, rfl⟩ | ⟨rfl, rfl, rfl⟩ | ⟨rfl, rfl, rfl⟩ | ⟨rfl, rfl, rfl⟩ | ⟨rfl, rfl, rfl⟩ | ⟨rfl, rfl, rfl⟩
  all_goals
    go_enter Try.func89, Try.ntmps89
    go_wp2
    go_ret
    exact ⟨ret_int (by unfold mvi; simp only [Int.reduceSub, Int.reduceAdd, Int.reduceToNat, Int.reducePow]; omega), rfl⟩
theorem signed_any (x b : Int) (w : World) (h0 : 0 ≤ x ∧ x ≤ 4294967295) (h : b = 12 ∨ b = 13 ∨ b = 21) :
    Calls Try.prog 90 #[.int .i64 x, .int .i64 b] w fun e w' => e = .returned (.int .i64 (sg x (2 ^ (b - 1).toNat) (2 ^ b.toNat))) ∧ w' = w := by
  rcases h with rfl | rfl | rfl
  all_goals
    go_enter Try.func90, Try.ntmps90
    go_wp2
    all_goals go_ret
    all_goals exact ⟨ret_int (by unfold sg; simp only [Int.reduceSub, Int.reduceToNat, Int.reducePow]; split <;> omega), rfl⟩
end Go.Proofs.Ytabjcodpagjbjaa

namespace Go.Proofs.Ytabjcodpagjbjaa
open Go.RowKit
set_option linter.unusedVariables false
set_option linter.unusedSimpArgs false

/-- A machine as a value, its blocks L. -/
def CpuV (w : World) (v : Value) (L : List Nat) (c : Mc) : Prop :=
  ∃ r d s i o, v = .agg #[r, .int .u32 c.pc, d, s, i, o, .int .u32 c.low, .int .i64 c.st] ∧ Lis .u32 w r c.regs ∧ Lis .u8 w d c.data ∧ Lis .u8 w s c.stack ∧ Lis .i64 w i c.inn ∧
    w.ownsRow 0 2 1 o c.out.length (c.out.map (Value.int .i64)) ∧ (capOk d ∧ capOk s ∧ capOk i) ∧ L = blk r ++ blk d ++ blk s ++ blk i ++ obk o ∧ L.Nodup
theorem CpuV.lt {w : World} {v : Value} {L : List Nat} {c : Mc} (h : CpuV w v L c) : ∀ g ∈ L, g < w.heap.size := by
  obtain ⟨r, d, s, i, o, rfl, hr, hd, hs, hi, ho, hk, rfl, hnd⟩ := h
  intro g hg
  simp only [List.mem_append] at hg
  rcases hg with (((hg | hg) | hg) | hg) | hg
  · exact hr.lt g hg
  · exact hd.lt g hg
  · exact hs.lt g hg
  · exact hi.lt g hg
  · exact ((own_obk ho).2 g hg).2
theorem CpuV.tcs {S : Nat → Prop} {w w' : World} {v : Value} {L : List Nat} {c : Mc} (h : CpuV w v L c) (ht : Tcs S w w') (hn : ∀ g ∈ L, ¬ S g) : CpuV w' v L c := by
  obtain ⟨r, d, s, i, o, rfl, hr, hd, hs, hi, ho, hk, rfl, hnd⟩ := h
  simp only [List.mem_append] at hn
  exact ⟨r, d, s, i, o, rfl, hr.tcs ht fun g hg => hn g (.inl (.inl (.inl (.inl hg)))), hd.tcs ht fun g hg => hn g (.inl (.inl (.inl (.inr hg)))), hs.tcs ht fun g hg => hn g (.inl (.inl (.inr hg))), hi.tcs ht fun g hg => hn g (.inl (.inr hg)), own_tcs ho ht fun g hg => hn g (.inr hg), hk, rfl, hnd⟩
theorem CpuV.below {w w' : World} {v : Value} {L : List Nat} {c : Mc} (h : CpuV w v L c) (hb : Below w.heap.size w w') : CpuV w' v L c := h.tcs (Below.tcs (S := fun _ => False) hb) (fun _ _ f => f)
/-- Laid in a box. -/
theorem CpuV.boxed {w W : World} {L : List Nat} {c : Mc} {x0 x1 x2 x3 x4 x5 x6 x7 : Value} {C t : Nat} (h : CpuV w (.agg #[x0, x1, x2, x3, x4, x5, x6, x7]) L c) (hW : Below w.heap.size w W) (hC : W.heap[C]? = some (.cells #[x0, x1, x2, x3, x4, x5, x6, x7] t)) (hn : w.heap.size ≤ C) : CpuIn W C (C :: L) c := by
  have hlt := h.lt
  obtain ⟨r, d, s, i, o, hv, hr, hd, hs, hi, ho, hk, rfl, hnd⟩ := h.below hW
  simp only [Value.agg.injEq, Array.mk.injEq, List.cons.injEq, and_true] at hv
  obtain ⟨rfl, rfl, rfl, rfl, rfl, rfl, rfl, rfl⟩ := hv
  refine ⟨x0, x2, x3, x4, x5, Bx.of_heap hC, hr, hd, hs, hi, ho, hk, rfl, List.nodup_cons.mpr ⟨fun hm => ?_, hnd⟩⟩
  have := hlt C hm
  omega
/-- Taken out of its box. -/
theorem CpuIn.value {W : World} {C : Nat} {L : List Nat} {c : Mc} (h : CpuIn W C L c) : ∃ r d s i o, Bx W C r (.int .u32 c.pc) d s i o (.int .u32 c.low) (.int .i64 c.st) ∧ ∃ L', L = C :: L' ∧ CpuV W (.agg #[r, .int .u32 c.pc, d, s, i, o, .int .u32 c.low, .int .i64 c.st]) L' c ∧
    (∃ n1 n2 n3 n4 n5 x1 y1 x2 y2 x3 y3 x4 y4 x5 y5, r = .slice x1 n1 y1 ∧ d = .slice x2 n2 y2 ∧ s = .slice x3 n3 y3 ∧ i = .slice x4 n4 y4 ∧ o = .slice x5 n5 y5) := by
  obtain ⟨r, d, s, i, o, hb, hr, hd, hs, hi, ho, hk, rfl, hnd⟩ := h
  obtain ⟨x1, y1, e1⟩ := hr.len0
  obtain ⟨x2, y2, e2⟩ := hd.len0
  obtain ⟨x3, y3, e3⟩ := hs.len0
  obtain ⟨x4, y4, e4⟩ := hi.len0
  obtain ⟨x5, y5, e5⟩ := own_slice ho
  exact ⟨r, d, s, i, o, hb, _, rfl, ⟨r, d, s, i, o, rfl, hr, hd, hs, hi, ho, hk, rfl, (List.nodup_cons.mp hnd).2⟩, _, _, _, _, _, x1, y1, x2, y2, x3, y3, x4, y4, x5, y5, e1, e2, e3, e4, e5⟩
theorem CpuV.shape {w : World} {v : Value} {L : List Nat} {c : Mc} (h : CpuV w v L c) : ∃ n1 n2 n3 n4 n5 x1 y1 x2 y2 x3 y3 x4 y4 x5 y5, v = .agg #[.slice x1 n1 y1, .int .u32 c.pc, .slice x2 n2 y2, .slice x3 n3 y3, .slice x4 n4 y4, .slice x5 n5 y5, .int .u32 c.low, .int .i64 c.st] := by
  obtain ⟨r, d, s, i, o, rfl, hr, hd, hs, hi, ho, hk, rfl, hnd⟩ := h
  obtain ⟨x1, y1, rfl⟩ := hr.len0
  obtain ⟨x2, y2, rfl⟩ := hd.len0
  obtain ⟨x3, y3, rfl⟩ := hs.len0
  obtain ⟨x4, y4, rfl⟩ := hi.len0
  obtain ⟨x5, y5, rfl⟩ := own_slice ho
  exact ⟨_, _, _, _, _, _, _, _, _, _, _, _, _, _, _, rfl⟩


theorem CpuV.shape32 {w : World} {v : Value} {L : List Nat} {c : Mc} (h : CpuV w v L c) (h32 : c.regs.length = 32) : ∃ g off y1 n2 n3 n4 n5 x2 y2 x3 y3 x4 y4 x5 y5, v = .agg #[.slice (some ⟨g, off, none⟩) 32 y1, .int .u32 c.pc, .slice x2 n2 y2, .slice x3 n3 y3, .slice x4 n4 y4, .slice x5 n5 y5, .int .u32 c.low, .int .i64 c.st] ∧ g ∈ L := by
  obtain ⟨r, d, s, i, o, rfl, hr, hd, hs, hi, ho, hk, rfl, hnd⟩ := h
  obtain ⟨g, off, cap, rfl, hR, hbk⟩ := lis_some hr (by omega)
  obtain ⟨x2, y2, rfl⟩ := hd.len0
  obtain ⟨x3, y3, rfl⟩ := hs.len0
  obtain ⟨x4, y4, rfl⟩ := hi.len0
  obtain ⟨x5, y5, rfl⟩ := own_slice ho
  refine ⟨g, off, cap, _, _, _, _, x2, y2, x3, y3, x4, y4, x5, y5, by rw [h32], ?_⟩
  rw [hbk]
  simp
theorem row_of {W : World} {g off cap : Nat} {rs : List Int} (h : Lis .u32 W (.slice (some ⟨g, off, none⟩) 32 cap) rs) (h32 : rs.length = 32) : Row .u32 W g off rs := by
  obtain ⟨a, k, e, hr⟩ := h
  obtain ⟨g', off', e', hR⟩ := hr (by omega)
  simp only [Value.slice.injEq] at e
  obtain ⟨rfl, _, _⟩ := e
  simp at e'
  obtain ⟨rfl, rfl⟩ := e'
  exact hR


/-- What is left of a call that gives a machine back by a result's box. -/
theorem CpuIn.giveBack {w W W' : World} {C : Nat} {L : List Nat} {c : Mc} {r p d s i o l t : Value} {R : Nat} (h : CpuIn W C (C :: L) c) (hb : Bx W C r p d s i o l t)
    (ht : Tcs (fun k => k = R) W W') (hR : w.heap.size ≤ R) (hl : ∀ g ∈ L, g < w.heap.size) : CpuV W' (.agg #[r, .int .u32 c.pc, d, s, i, o, .int .u32 c.low, .int .i64 c.st]) L c := by
  obtain ⟨r', d', s', i', o', hb', hr, hd, hs, hi, ho, hk, hL, hnd⟩ := h
  obtain rfl : r' = r := Option.some.inj (hb'.c0.symm.trans hb.c0)
  obtain rfl : d' = d := Option.some.inj (hb'.c2.symm.trans hb.c2)
  obtain rfl : s' = s := Option.some.inj (hb'.c3.symm.trans hb.c3)
  obtain rfl : i' = i := Option.some.inj (hb'.c4.symm.trans hb.c4)
  obtain rfl : o' = o := Option.some.inj (hb'.c5.symm.trans hb.c5)
  obtain rfl : L = _ := (List.cons.inj hL).2
  have hv : CpuV W (.agg #[r', .int .u32 c.pc, d', s', i', o', .int .u32 c.low, .int .i64 c.st]) (blk r' ++ blk d' ++ blk s' ++ blk i' ++ obk o') c := ⟨r', d', s', i', o', rfl, hr, hd, hs, hi, ho, hk, rfl, (List.nodup_cons.mp hnd).2⟩
  exact hv.tcs ht fun g hg e => by have := hl g hg; omega
theorem CpuIn.set {W : World} {C : Nat} {L : List Nat} {c : Mc} {g off cap rd : Nat} {d s i o : Value} {v : Int} (h : CpuIn W C L c) (hb : Bx W C (.slice (some ⟨g, off, none⟩) 32 cap) (.int .u32 c.pc) d s i o (.int .u32 c.low) (.int .i64 c.st)) (h32 : c.regs.length = 32) (hrd : rd < 32) (h0 : 0 < rd) :
    CpuIn (W.setCell ⟨g, off + rd, none⟩ (.int .u32 v)) C L (setR c rd v) ∧ g ∈ L := by
  obtain ⟨r', d', s', i', o', hb', hr, hd, hs, hi, ho, hk, hL, hnd⟩ := h
  obtain rfl : r' = _ := Option.some.inj (hb'.c0.symm.trans hb.c0)
  have hR := row_of hr h32
  rw [show (.slice (some ⟨g, off, none⟩) 32 cap : Value) = .slice (some ⟨g, off, none⟩) c.regs.length cap by rw [h32]] at hb' hL
  refine ⟨?_, ?_⟩
  · rw [show setR c (rd : Int) v = { c with regs := c.regs.set rd v } by unfold setR; rw [if_neg (by omega)]; rfl]
    exact CpuIn.regs hb' hd hs hi ho hL hnd hk (by omega) ((Tcs.refl (fun x => x = g) W).setCell (p := ⟨g, off + rd, none⟩) rfl _) (by simp) (hR.set (by omega))
  · rw [hL, blk_some _ _ _ (by omega)]
    simp
theorem setR_low (c : Mc) (rd v : Int) : (setR c rd v).low = c.low := by unfold setR; split <;> rfl
theorem CpuV.pc {w : World} {r p d s i o l t : Value} {L : List Nat} {c : Mc} (h : CpuV w (.agg #[r, p, d, s, i, o, l, t]) L c) (x : Int) : CpuV w (.agg #[r, .int .u32 x, d, s, i, o, l, t]) L { c with pc := x } := by
  obtain ⟨r', d', s', i', o', hv, hr, hd, hs, hi, ho, hk, rfl, hnd⟩ := h
  simp only [Value.agg.injEq, Array.mk.injEq, List.cons.injEq, and_true] at hv
  obtain ⟨rfl, rfl, rfl, rfl, rfl, rfl, rfl, rfl⟩ := hv
  exact ⟨_, _, _, _, _, rfl, hr, hd, hs, hi, ho, hk, rfl, hnd⟩
theorem setR_zero (c : Mc) (v : Int) : setR c 0 v = c := by unfold setR; rw [if_pos rfl]

end Go.Proofs.Ytabjcodpagjbjaa
