import Derived.Laws.BitsAllLaws
import Derived.Test.YtabjcodpagjbjaaP12
import Derived.Test.YtabjcodpagjbjaaP13
import Derived.Deep.RegionLaw
import Derived.Laws.Small
namespace Go.Proofs.Ytabjcodpagjbjaa
open Go.RowKit
set_option linter.unusedVariables false
set_option linter.unusedSimpArgs false

theorem even_nat (a : Nat) (ha : a < 4294967296) : a &&& 4294967294 = a / 2 * 2 := by
  have h : (4294967294 : Nat) = (2^31 - 1) <<< 1 := by decide
  apply Nat.eq_of_testBit_eq
  intro i
  rw [Nat.testBit_and]
  cases i with
  | zero => simp
  | succ i =>
    rw [h, Nat.testBit_shiftLeft, Nat.mul_comm, Nat.testBit_succ, Nat.testBit_succ]
    simp only [Nat.testBit_two_pow_sub_one]
    by_cases hi : i < 31
    · simp [hi]
    · have : (a / 2).testBit i = false := Nat.testBit_lt_two_pow (by have : 2^31 ≤ 2^i := Nat.pow_le_pow_right (by decide) (by omega); omega)
      simp [this, hi]
theorem jr_even (x : Int) (hx : 0 ≤ x ∧ x ≤ 4294967295) : bits .andNot .u32 x 1 = x / 2 * 2 := by
  obtain ⟨n, rfl⟩ := Int.eq_ofNat_of_zero_le hx.1
  have h := u32_andNot_nat n 1 (by omega) (by omega)
  have e := even_nat n (by omega)
  rw [show (4294967295 - 1 : Nat) = 4294967294 by decide, e] at h
  rw [show ((1 : Nat) : Int) = 1 by rfl] at h
  rw [h]
  omega
theorem Good.setR {c : Mc} (h : Good c) (rd : Nat) (v : Int) (hrd : rd < 32) (hv : 0 ≤ v ∧ v ≤ 4294967295) : Good (setR c rd v) := by
  by_cases h0 : (rd : Int) = 0
  · rw [h0, setR_zero]; exact h
  · have e : Go.Proofs.Ytabjcodpagjbjaa.setR c rd v = { c with regs := c.regs.set rd v } := by unfold Go.Proofs.Ytabjcodpagjbjaa.setR; rw [if_neg h0]; rfl
    rw [e]
    refine { r32 := by simpa using h.r32, ru := fun j hj => ?_, r0 := ?_, pcu := h.pcu, lou := h.lou, dl := h.dl, du := h.du, sl := h.sl, su := h.su, il := h.il, iu := h.iu, ol := h.ol, ou := h.ou, st := h.st }
    · have hl := h.r32
      have hj' := h.ru j hj
      simp only [List.getD_eq_getElem?_getD, List.getElem?_set] at hj' ⊢
      by_cases e : rd = j
      · subst e; simp [hl, hrd]; omega
      · simp [e]; simpa using hj'
    · have h0' : rd ≠ 0 := by omega
      have := h.r0
      simp only [List.getD_eq_getElem?_getD, List.getElem?_set] at this ⊢
      simp [h0']; simpa using this
theorem Good.set10 {c : Mc} (h : Good c) (v : Int) (hv : 0 ≤ v ∧ v ≤ 4294967295) : Good { c with regs := c.regs.set 10 v } := h.setR 10 v (by omega) hv
theorem Good.pc {c : Mc} (h : Good c) (x : Int) (hx : 0 ≤ x ∧ x ≤ 4294967295) : Good { c with pc := x } := { h with pcu := hx }
theorem Good.low {c : Mc} (h : Good c) (x : Int) (hx : 0 ≤ x ∧ x ≤ 4294967295) : Good { c with low := x } := { h with lou := hx }
theorem Good.stt {c : Mc} (h : Good c) (x : Int) (hx : 0 ≤ x ∧ x ≤ 2) : Good { c with st := x } := { h with st := hx }
theorem put4_bd {zs : List Int} {m : Nat} {v : Int} (hz : ∀ j, j < zs.length → 0 ≤ zs.getD j 0 ∧ zs.getD j 0 ≤ 255) (hv : 0 ≤ v ∧ v ≤ 4294967295) : ∀ j, j < zs.length → 0 ≤ (put4 zs m v).getD j 0 ∧ (put4 zs m v).getD j 0 ≤ 255 := by
  have one : ∀ (zs : List Int) (i : Nat) (x : Int), (∀ j, j < zs.length → 0 ≤ zs.getD j 0 ∧ zs.getD j 0 ≤ 255) → (0 ≤ x ∧ x ≤ 255) → ∀ j, j < (zs.set i x).length → 0 ≤ (zs.set i x).getD j 0 ∧ (zs.set i x).getD j 0 ≤ 255 := by
    intro zs i x hz hx j hj
    have hj1 : j < zs.length := by simpa using hj
    have := hz j hj1
    simp only [List.getD_eq_getElem?_getD, List.getElem?_set] at this ⊢
    by_cases e : i = j
    · subst e; simp [hj1]; omega
    · simp [e]; simpa using this
  unfold put4
  intro j hj
  refine one _ _ _ (one _ _ _ (one _ _ _ (one _ _ _ hz ?_) ?_) ?_) ?_ j (by simpa using hj)
  all_goals omega
theorem Good.dat {c : Mc} (h : Good c) (m : Nat) (v : Int) (hv : 0 ≤ v ∧ v ≤ 4294967295) : Good { c with data := put4 c.data m v } := { h with dl := by simpa [put4_len] using h.dl, du := fun j hj => put4_bd h.du hv j (by simpa [put4_len] using hj) }
theorem Good.stk {c : Mc} (h : Good c) (m : Nat) (v : Int) (hv : 0 ≤ v ∧ v ≤ 4294967295) : Good { c with stack := put4 c.stack m v } := { h with sl := by simpa [put4_len] using h.sl, su := fun j hj => put4_bd h.su hv j (by simpa [put4_len] using hj) }
theorem Good.inn {c : Mc} {z : Int} {is : List Int} (h : Good c) (hi : c.inn = z :: is) : Good { c with inn := is } := by
  refine { h with il := ?_, iu := fun j hj => ?_ }
  · have := h.il; rw [hi] at this; simp at this; dsimp only; omega
  · have := h.iu (j + 1) (by rw [hi]; simpa using hj)
    rw [hi] at this
    simpa using this
theorem Good.out {c : Mc} {v : Int} (h : Good c) (ho : c.out.length < 1000000) (hv : -2147483648 ≤ v ∧ v ≤ 2147483647) : Good { c with out := c.out ++ [v] } := by
  refine { h with ol := by simp; omega, ou := fun j hj => ?_ }
  have hj' : j < c.out.length + 1 := by simpa using hj
  by_cases e : j < c.out.length
  · have := h.ou j e
    simp only [List.getD_eq_getElem?_getD, List.getElem?_append_left e] at this ⊢
    simpa using this
  · obtain rfl : j = c.out.length := by omega
    simp only [List.getD_eq_getElem?_getD, List.getElem?_append_right (Nat.le_refl _)]
    simpa using hv
theorem word4_bd {zs : List Int} {m : Nat} (hz : ∀ j, j < zs.length → 0 ≤ zs.getD j 0 ∧ zs.getD j 0 ≤ 255) (hm : m + 4 ≤ zs.length) : 0 ≤ word4 zs m ∧ word4 zs m ≤ 4294967295 := by
  have h0 := hz m (by omega)
  have h1 := hz (m + 1) (by omega)
  have h2 := hz (m + 2) (by omega)
  have h3 := hz (m + 3) (by omega)
  unfold word4
  omega
theorem w32_in (x : Int) : -2147483648 ≤ wrap32 x ∧ wrap32 x ≤ 2147483647 := by unfold wrap32; omega
/-- What both programs do at an instruction: f tells whether it was no fault, c' what the machine is then. -/
def DoIs (c : Mc) (mb k a b s d : Int) (f : Bool) (c' : Mc) : Prop :=
  (∀ C L w, CpuIn w C L c → Calls Try.prog 58 #[.pointer (some ⟨C, 0, none⟩), .agg #[.int .i64 k, .int .i64 a, .int .i64 b, .int .i64 s, .int .i64 d]] w fun e w' => e = .returned (.bool f) ∧ ∃ L', CpuIn w' C L' c' ∧ (∀ g ∈ L', g ∈ L ∨ w.heap.size ≤ g) ∧ Tcs (fun g => g ∈ L) w w') ∧
  (∀ ma mn mc' md v L w, CpuV w v L c → Calls Try.prog 62 #[.agg #[.slice ma mn mc', .int .i64 md, .int .i64 mb], v, .agg #[.int .i64 k, .int .i64 a, .int .i64 b, .int .i64 s, .int .i64 d]] w fun e w' => ∃ u, e = .returned u ∧ ∃ L', CpuV w' u L' (if f = true then c' else { c with st := 2 }) ∧ (∀ x ∈ L', x ∈ L ∨ w.heap.size ≤ x) ∧ Tcs (fun g => g ∈ L) w w') ∧
  (f = false → c' = c) ∧ Good c' ∧ (c'.st = 0 ∨ c'.st = 1) ∧ c'.low = c.low ∧ c'.data.length = c.data.length ∧ c'.stack.length = c.stack.length
theorem do_same {c : Mc} {mb k a b s d : Int} {c' : Mc} (hI : ∀ C L w, CpuIn w C L c → Calls Try.prog 58 #[.pointer (some ⟨C, 0, none⟩), .agg #[.int .i64 k, .int .i64 a, .int .i64 b, .int .i64 s, .int .i64 d]] w fun e w' => e = .returned (.bool true) ∧ CpuIn w' C L c' ∧ Tcs (fun g => g ∈ L) w w')
    (hS : ∀ ma mn mc' md v L w, CpuV w v L c → Calls Try.prog 62 #[.agg #[.slice ma mn mc', .int .i64 md, .int .i64 mb], v, .agg #[.int .i64 k, .int .i64 a, .int .i64 b, .int .i64 s, .int .i64 d]] w fun e w' => ∃ u, e = .returned u ∧ CpuV w' u L c' ∧ Tcs (fun g => g ∈ L) w w')
    (hg : Good c') (h1 : c'.st = 0 ∨ c'.st = 1) (h2 : c'.low = c.low) (h3 : c'.data.length = c.data.length) (h4 : c'.stack.length = c.stack.length) : DoIs c mb k a b s d true c' := by
  refine ⟨fun C L w h => (hI C L w h).mono ?_, fun ma mn mc' md v L w h => (hS ma mn mc' md v L w h).mono ?_, (fun h => by cases h), hg, h1, h2, h3, h4⟩
  · rintro e w' ⟨he, hc, ht⟩
    exact ⟨he, L, hc, fun g hg => .inl hg, ht⟩
  · rintro e w' ⟨u, he, hc, ht⟩
    exact ⟨u, he, L, by simpa using hc, fun g hg => .inl hg, ht⟩
theorem do_same2 {c : Mc} {mb k a b s d : Int} {c' : Mc} (hI : ∀ C L w, CpuIn w C L c → Calls Try.prog 58 #[.pointer (some ⟨C, 0, none⟩), .agg #[.int .i64 k, .int .i64 a, .int .i64 b, .int .i64 s, .int .i64 d]] w fun e w' => e = .returned (.bool true) ∧ CpuIn w' C L c' ∧ Tcs (fun g => g ∈ L) w w')
    (hS : ∀ ma mn mc' md v L w, CpuV w v L c → Calls Try.prog 62 #[.agg #[.slice ma mn mc', .int .i64 md, .int .i64 mb], v, .agg #[.int .i64 k, .int .i64 a, .int .i64 b, .int .i64 s, .int .i64 d]] w fun e w' => ∃ u, e = .returned u ∧ ∃ L', CpuV w' u L' c' ∧ (∀ x ∈ L', x ∈ L ∨ w.heap.size ≤ x) ∧ Tcs (fun g => g ∈ L) w w')
    (hg : Good c') (h1 : c'.st = 0 ∨ c'.st = 1) (h2 : c'.low = c.low) (h3 : c'.data.length = c.data.length) (h4 : c'.stack.length = c.stack.length) : DoIs c mb k a b s d true c' := by
  refine ⟨fun C L w h => (hI C L w h).mono ?_, fun ma mn mc' md v L w h => (hS ma mn mc' md v L w h).mono ?_, (fun h => by cases h), hg, h1, h2, h3, h4⟩
  · rintro e w' ⟨he, hc, ht⟩
    exact ⟨he, L, hc, fun g hg => .inl hg, ht⟩
  · rintro e w' ⟨u, he, L', hc, hl, ht⟩
    exact ⟨u, he, L', by simpa using hc, hl, ht⟩
theorem do_flt {c : Mc} {mb k a b s d : Int} (hI : ∀ C L w, CpuIn w C L c → Calls Try.prog 58 #[.pointer (some ⟨C, 0, none⟩), .agg #[.int .i64 k, .int .i64 a, .int .i64 b, .int .i64 s, .int .i64 d]] w fun e w' => e = .returned (.bool false) ∧ CpuIn w' C L c ∧ Tcs (fun g => g ∈ L) w w')
    (hS : ∀ ma mn mc' md v L w, CpuV w v L c → Calls Try.prog 62 #[.agg #[.slice ma mn mc', .int .i64 md, .int .i64 mb], v, .agg #[.int .i64 k, .int .i64 a, .int .i64 b, .int .i64 s, .int .i64 d]] w fun e w' => ∃ u, e = .returned u ∧ ∃ L', CpuV w' u L' { c with st := 2 } ∧ (∀ x ∈ L', x ∈ L ∨ w.heap.size ≤ x) ∧ Tcs (fun g => g ∈ L) w w')
    (hg : Good c) (hst : c.st = 0) : DoIs c mb k a b s d false c := by
  refine ⟨fun C L w h => (hI C L w h).mono ?_, fun ma mn mc' md v L w h => (hS ma mn mc' md v L w h).mono ?_, fun _ => rfl, hg, .inl hst, rfl, rfl, rfl⟩
  · rintro e w' ⟨he, hc, ht⟩
    exact ⟨he, L, hc, fun g hg => .inl hg, ht⟩
  · rintro e w' ⟨u, he, L', hc, hl, ht⟩
    exact ⟨u, he, L', by simpa using hc, hl, ht⟩

end Go.Proofs.Ytabjcodpagjbjaa

namespace Go.Proofs.Ytabjcodpagjbjaa
open Go.RowKit
set_option linter.unusedVariables false
set_option linter.unusedSimpArgs false

def lowM (c : Mc) : Mc := { c with low := if c.regs.getD 2 0 < c.low then c.regs.getD 2 0 else c.low }
set_option maxRecDepth 8000 in
set_option maxHeartbeats 1000000 in
theorem adv_no (C : Nat) (L : List Nat) (c : Mc) (k a b s d : Int) (w : World) (h : CpuIn w C L c) :
    Calls Try.prog 28 #[.pointer (some ⟨C, 0, none⟩), .agg #[.bool false, .int .i64 k, .int .i64 a, .int .i64 b, .int .i64 s, .int .i64 d]] w fun e w' => e = .returned (.tuple #[]) ∧ ∃ L', CpuIn w' C L' { c with st := 2 } ∧ (∀ g ∈ L', g ∈ L ∨ w.heap.size ≤ g) ∧ Tcs (fun g => g ∈ L) w w' := by
  have h0 := h
  have hC := h.mem
  have hlt := h.lt C hC
  have hne : ¬ C = w.heap.size := by omega
  obtain ⟨rv, dv, sv, iv, ov, hb, hr, hd, hs, hi, ho, hk, hL, hnd⟩ := id h0
  have c7 := hb.c7
  have cf := hb.fz
  have HX : Hid _ := And.intro h0 hC
  clear hb hr hd hs hi ho hk hL hnd h h0 hC
  go_enter Try.func28, Try.ntmps28
  go_wp2
  refine bodyPost_ret (v := .tuple #[]) (by simp [results, Try.results28, go_sem]) rfl ?_
  obtain ⟨h0, hC⟩ := HX.out
  exact ⟨rfl, L, (h0.stt 2).below ((Below.refl _ _).alloc (Nat.le_refl _) _), fun g hg => .inl hg, ((Tcs.refl (fun g => g ∈ L) w).setCell (p := ⟨C, 7, none⟩) hC _).alloc _⟩
set_option maxRecDepth 8000 in
set_option maxHeartbeats 1000000 in
theorem adv_flt (C : Nat) (L : List Nat) (c c' : Mc) (mb k a b s d : Int) (w : World) (h : CpuIn w C L c) (hD : DoIs c mb k a b s d false c') :
    Calls Try.prog 28 #[.pointer (some ⟨C, 0, none⟩), .agg #[.bool true, .int .i64 k, .int .i64 a, .int .i64 b, .int .i64 s, .int .i64 d]] w fun e w' => e = .returned (.tuple #[]) ∧ ∃ L', CpuIn w' C L' { c with st := 2 } ∧ (∀ g ∈ L', g ∈ L ∨ w.heap.size ≤ g) ∧ Tcs (fun g => g ∈ L) w w' := by
  have h0 := h.below ((Below.refl w.heap.size w).alloc (Nat.le_refl _) (.cells #[.bool true, .int .i64 k, .int .i64 a, .int .i64 b, .int .i64 s, .int .i64 d] 66))
  have hC := h.mem
  have hlt := h.lt C hC
  have hne : ¬ C = w.heap.size := by omega
  obtain rfl : c' = c := hD.2.2.1 rfl
  have HD : Hid (∀ W, _) := fun W (hW : CpuIn W C L c') => hD.1 C L W hW
  have HX : Hid _ := And.intro h0 hC
  clear hD h h0 hC
  go_enter Try.func28, Try.ntmps28
  go_wp2_with fail
  refine (HD.out _ HX.out.1).mono ?_
  rintro e w1 ⟨rfl, L', hc, hl, ht⟩
  have hC1 := hc.mem
  obtain ⟨rv, dv, sv, iv, ov, hb, hr, hd, hs, hi, ho, hk, hL, hnd⟩ := id hc
  have c7 := hb.c7
  have cf := hb.fz
  have HY : Hid _ := And.intro hc (And.intro hl (And.intro ht hC1))
  clear hb hr hd hs hi ho hk hL hnd hc hl ht hC1
  go_wp2
  refine bodyPost_ret (v := .tuple #[]) (by simp [results, Try.results28, go_sem]) rfl ?_
  obtain ⟨hc, hl, ht, hC1⟩ := HY.out
  simp only [World.size_alloc] at hl
  refine ⟨rfl, L', hc.stt 2, fun g hg => ?_, ?_⟩
  · rcases hl g hg with h | h
    · exact .inl h
    · exact .inr (by omega)
  · exact (((Tcs.refl (fun g => g ∈ L) w).alloc _).trans ht).setCell (p := ⟨C, 7, none⟩) HX.out.2 _
set_option maxRecDepth 8000 in
set_option maxHeartbeats 1000000 in
theorem adv_ok (C : Nat) (L : List Nat) (c c' : Mc) (mb k a b s d : Int) (w : World) (h : CpuIn w C L c) (hD : DoIs c mb k a b s d true c') :
    Calls Try.prog 28 #[.pointer (some ⟨C, 0, none⟩), .agg #[.bool true, .int .i64 k, .int .i64 a, .int .i64 b, .int .i64 s, .int .i64 d]] w fun e w' => e = .returned (.tuple #[]) ∧ ∃ L', CpuIn w' C L' (lowM c') ∧ (∀ g ∈ L', g ∈ L ∨ w.heap.size ≤ g) ∧ Tcs (fun g => g ∈ L) w w' := by
  have h0 := h.below ((Below.refl w.heap.size w).alloc (Nat.le_refl _) (.cells #[.bool true, .int .i64 k, .int .i64 a, .int .i64 b, .int .i64 s, .int .i64 d] 66))
  have hC := h.mem
  have hlt := h.lt C hC
  have hne : ¬ C = w.heap.size := by omega
  have hG := hD.2.2.2.1
  have HD : Hid (∀ W, _) := fun W (hW : CpuIn W C L c) => hD.1 C L W hW
  have HX : Hid _ := And.intro h0 hC
  clear hD h h0 hC
  go_enter Try.func28, Try.ntmps28
  go_wp2_with fail
  refine (HD.out _ HX.out.1).mono ?_
  rintro e w1 ⟨rfl, L', hc, hl, ht⟩
  have hC1 := hc.mem
  obtain ⟨rv, dv, sv, iv, ov, hb, hr, hd, hs, hi, ho, hk, hL, hnd⟩ := id hc
  obtain ⟨g, off, cap, rfl, hR, hbk⟩ := lis_some hr (by have := hG.r32; omega)
  have c0 := hb.c0
  rw [hG.r32] at c0
  have c6 := hb.c6
  have cf := hb.fz
  have r2 := hR.cell 2 (by have := hG.r32; omega)
  have HY : Hid _ := And.intro hc (And.intro hl (And.intro ht hC1))
  clear hb hr hd hs hi ho hk hL hnd hc hl ht hC1 hR hbk
  generalize hx : c'.regs.getD 2 0 = q at *
  go_wp2_with fail
  go_region_law (fail)
  all_goals go_wp2_with fail
  all_goals go_end0
  all_goals
    obtain ⟨hc, hl, ht, hC1⟩ := HY.out
    simp only [World.size_alloc] at hl
    refine ⟨rfl, L', ?_, fun g hg => ?_, ?_⟩
    · unfold lowM
      rw [hx]
      first
        | (rw [if_pos (by omega)]; exact (hc.low _).below (Below.refl _ _).drew)
        | (rw [if_neg (by omega)]; exact (hc.low _).below (Below.refl _ _).drew)
    · rcases hl g hg with h | h
      · exact .inl h
      · exact .inr (by omega)
    · exact ((((Tcs.refl (fun g => g ∈ L) w).alloc _).trans ht).setCell (p := ⟨C, 6, none⟩) HX.out.2 _).drewN 1

end Go.Proofs.Ytabjcodpagjbjaa

namespace Go.Proofs.Ytabjcodpagjbjaa
open Go.RowKit
set_option linter.unusedVariables false
set_option linter.unusedSimpArgs false

set_option maxRecDepth 8000 in
set_option maxHeartbeats 1000000 in
theorem st_stay (ma : Option Addr) (mn mc' : Nat) (md mb : Int) (v : Value) (L : List Nat) (c : Mc) (w : World) (hG : Good c) (h : CpuV w v L c) (hst : ¬ c.st = 0) :
    Calls Try.prog 33 #[.agg #[.slice ma mn mc', .int .i64 md, .int .i64 mb], v] w fun e w' => ∃ u, e = .returned u ∧ ∃ L', CpuV w' u L' c ∧ (∀ x ∈ L', x ∈ L ∨ w.heap.size ≤ x) ∧ Tcs (fun g => g ∈ L) w w' := by
  obtain ⟨g, off, y1, n2, n3, n4, n5, x2, y2, x3, y3, x4, y4, x5, y5, rfl, hbk⟩ := h.shape32 hG.r32
  have A4 : Below w.heap.size w (((w.alloc (.cells #[.slice ma mn mc', .int .i64 md, .int .i64 mb] 25)).alloc (.cells #[.slice (some ⟨g, off, none⟩) 32 y1, .int .u32 c.pc, .slice x2 n2 y2, .slice x3 n3 y3, .slice x4 n4 y4, .slice x5 n5 y5, .int .u32 c.low, .int .i64 c.st] 32)).alloc (.cells #[.slice none 0 0, .int .u32 0, .slice none 0 0, .slice none 0 0, .slice none 0 0, .slice none 0 0, .int .u32 0, .int .i64 0] 32)) := (((Below.refl _ _).alloc (Nat.le_refl _) _).alloc (by simp) _).alloc (by simp; omega) _
  have hCb : (((w.alloc (.cells #[.slice ma mn mc', .int .i64 md, .int .i64 mb] 25)).alloc (.cells #[.slice (some ⟨g, off, none⟩) 32 y1, .int .u32 c.pc, .slice x2 n2 y2, .slice x3 n3 y3, .slice x4 n4 y4, .slice x5 n5 y5, .int .u32 c.low, .int .i64 c.st] 32)).alloc (.cells #[.slice none 0 0, .int .u32 0, .slice none 0 0, .slice none 0 0, .slice none 0 0, .slice none 0 0, .int .u32 0, .int .i64 0] 32)).heap[w.heap.size + 1]? = some (.cells #[.slice (some ⟨g, off, none⟩) 32 y1, .int .u32 c.pc, .slice x2 n2 y2, .slice x3 n3 y3, .slice x4 n4 y4, .slice x5 n5 y5, .int .u32 c.low, .int .i64 c.st] 32) := by
    rw [Below.heap_alloc _ _ _ (by simp)]
    have := heap_alloc_new (w.alloc (.cells #[.slice ma mn mc', .int .i64 md, .int .i64 mb] 25)) (.cells #[.slice (some ⟨g, off, none⟩) 32 y1, .int .u32 c.pc, .slice x2 n2 y2, .slice x3 n3 y3, .slice x4 n4 y4, .slice x5 n5 y5, .int .u32 c.low, .int .i64 c.st] 32)
    simpa only [World.size_alloc] using this
  have hgw : g < w.heap.size := h.lt g hbk
  have e1 : ¬ g = w.heap.size := by omega
  have e2 : ¬ g = w.heap.size + 1 := by omega
  have e3 : ¬ g = w.heap.size + 1 + 1 := by omega
  have hpc := hG.pcu
  have HX : Hid _ := And.intro h (And.intro A4 (Bx.of_heap hCb))
  clear h A4 hCb hbk
  go_enter Try.func33, Try.ntmps33
  go_wp2
  refine bodyPost_ret (v := .agg #[.slice (some ⟨g, off, none⟩) 32 y1, .int .u32 c.pc, .slice x2 n2 y2, .slice x3 n3 y3, .slice x4 n4 y4, .slice x5 n5 y5, .int .u32 c.low, .int .i64 c.st]) (by simp [results, Try.results33, go_sem]) rfl ?_
  obtain ⟨hv, A4, hb⟩ := HX.out
  have B3 := fun o1 o2 o3 => (((Below.refl w.heap.size w).alloc (Nat.le_refl _) o1).alloc (by simp) o2).alloc (by simp; omega) o3
  exact ⟨_, rfl, L, hv.below (B3 _ _ _), fun x hx => .inl hx, Below.tcs (B3 _ _ _)⟩


set_option maxRecDepth 8000 in
set_option maxHeartbeats 1000000 in
theorem st_outA (ma : Option Addr) (mn mc' : Nat) (md mb : Int) (v : Value) (L : List Nat) (c : Mc) (w : World) (hG : Good c) (h : CpuV w v L c) (hst : c.st = 0) (hp : c.pc < 4096) :
    Calls Try.prog 33 #[.agg #[.slice ma mn mc', .int .i64 md, .int .i64 mb], v] w fun e w' => ∃ u, e = .returned u ∧ ∃ L', CpuV w' u L' { c with st := 2 } ∧ (∀ x ∈ L', x ∈ L ∨ w.heap.size ≤ x) ∧ Tcs (fun g => g ∈ L) w w' := by
  obtain ⟨g, off, y1, n2, n3, n4, n5, x2, y2, x3, y3, x4, y4, x5, y5, rfl, hbk⟩ := h.shape32 hG.r32
  have A4 : Below w.heap.size w (((w.alloc (.cells #[.slice ma mn mc', .int .i64 md, .int .i64 mb] 25)).alloc (.cells #[.slice (some ⟨g, off, none⟩) 32 y1, .int .u32 c.pc, .slice x2 n2 y2, .slice x3 n3 y3, .slice x4 n4 y4, .slice x5 n5 y5, .int .u32 c.low, .int .i64 c.st] 32)).alloc (.cells #[.slice none 0 0, .int .u32 0, .slice none 0 0, .slice none 0 0, .slice none 0 0, .slice none 0 0, .int .u32 0, .int .i64 0] 32)) := (((Below.refl _ _).alloc (Nat.le_refl _) _).alloc (by simp) _).alloc (by simp; omega) _
  have hCb : (((w.alloc (.cells #[.slice ma mn mc', .int .i64 md, .int .i64 mb] 25)).alloc (.cells #[.slice (some ⟨g, off, none⟩) 32 y1, .int .u32 c.pc, .slice x2 n2 y2, .slice x3 n3 y3, .slice x4 n4 y4, .slice x5 n5 y5, .int .u32 c.low, .int .i64 c.st] 32)).alloc (.cells #[.slice none 0 0, .int .u32 0, .slice none 0 0, .slice none 0 0, .slice none 0 0, .slice none 0 0, .int .u32 0, .int .i64 0] 32)).heap[w.heap.size + 1]? = some (.cells #[.slice (some ⟨g, off, none⟩) 32 y1, .int .u32 c.pc, .slice x2 n2 y2, .slice x3 n3 y3, .slice x4 n4 y4, .slice x5 n5 y5, .int .u32 c.low, .int .i64 c.st] 32) := by
    rw [Below.heap_alloc _ _ _ (by simp)]
    have := heap_alloc_new (w.alloc (.cells #[.slice ma mn mc', .int .i64 md, .int .i64 mb] 25)) (.cells #[.slice (some ⟨g, off, none⟩) 32 y1, .int .u32 c.pc, .slice x2 n2 y2, .slice x3 n3 y3, .slice x4 n4 y4, .slice x5 n5 y5, .int .u32 c.low, .int .i64 c.st] 32)
    simpa only [World.size_alloc] using this
  have hgw : g < w.heap.size := h.lt g hbk
  have e1 : ¬ g = w.heap.size := by omega
  have e2 : ¬ g = w.heap.size + 1 := by omega
  have e3 : ¬ g = w.heap.size + 1 + 1 := by omega
  have hpc := hG.pcu
  have hs0 : (c.st != 0) = false := by rw [hst]; rfl
  have HST : Hid (c.st = 0) := hst
  clear hst
  have hq : c.pc - 4096 < 0 := by omega
  have HX : Hid _ := And.intro h (And.intro A4 (Bx.of_heap hCb))
  clear h A4 hCb hbk
  go_enter Try.func33, Try.ntmps33
  go_wp2_with fail
  refine (fault_any _ L c _ (HX.out.1.below HX.out.2.1)).mono ?_
  rintro e w1 ⟨u1, rfl, cv1, hb1⟩
  obtain ⟨m1, m2, m3, m4, m5, a1, b1, a2, b2, a3, b3, a4, b4, a5, b5, rfl⟩ := cv1.shape
  have RB := (Bx.of_heap (by have := heap_alloc_new ((w.alloc (.cells #[.slice ma mn mc', .int .i64 md, .int .i64 mb] 25)).alloc (.cells #[.slice (some ⟨g, off, none⟩) 32 y1, .int .u32 c.pc, .slice x2 n2 y2, .slice x3 n3 y3, .slice x4 n4 y4, .slice x5 n5 y5, .int .u32 c.low, .int .i64 c.st] 32)) (.cells #[.slice none 0 0, .int .u32 0, .slice none 0 0, .slice none 0 0, .slice none 0 0, .slice none 0 0, .int .u32 0, .int .i64 0] 32); simpa only [World.size_alloc] using this : (((w.alloc (.cells #[.slice ma mn mc', .int .i64 md, .int .i64 mb] 25)).alloc (.cells #[.slice (some ⟨g, off, none⟩) 32 y1, .int .u32 c.pc, .slice x2 n2 y2, .slice x3 n3 y3, .slice x4 n4 y4, .slice x5 n5 y5, .int .u32 c.low, .int .i64 c.st] 32)).alloc (.cells #[.slice none 0 0, .int .u32 0, .slice none 0 0, .slice none 0 0, .slice none 0 0, .slice none 0 0, .int .u32 0, .int .i64 0] 32)).heap[w.heap.size + 1 + 1]? = _)).below hb1
  obtain ⟨z0, z1, z2, z3, z4, z5, z6, z7, zf⟩ := id RB
  have HV : Hid _ := And.intro cv1 (And.intro hb1 (And.intro HX.out.1.lt HX.out.2.1))
  clear cv1 hb1 RB HX
  dsimp only
  go_wp2
  refine bodyPost_ret (v := .agg #[.slice a1 m1 b1, .int .u32 c.pc, .slice a2 m2 b2, .slice a3 m3 b3, .slice a4 m4 b4, .slice a5 m5 b5, .int .u32 c.low, .int .i64 2]) (by simp [results, Try.results33, go_sem, z0, z1, z2, z3, z4, z5, z6, z7]) rfl ?_
  obtain ⟨cv1, hb1, hl, A4⟩ := HV.out
  refine ⟨_, rfl, L, cv1.tcs ((Tcs.refl (fun k => k = w.heap.size + 1 + 1) w1).set8 _ rfl _ _ _ _ _ _ _ _) (fun g hg e => by have := hl g hg; omega), fun x hx => .inl hx, ?_⟩
  exact ((Below.tcs (S := fun x => x ∈ L) A4).of_below hb1).new8 _ (by omega) _ _ _ _ _ _ _ _


set_option maxRecDepth 8000 in
set_option maxHeartbeats 1000000 in
theorem st_outB (ma : Option Addr) (mn mc' : Nat) (md mb : Int) (v : Value) (L : List Nat) (c : Mc) (w : World) (hG : Good c) (h : CpuV w v L c) (hst : c.st = 0) (hp : 4096 ≤ c.pc) (hp4 : (c.pc - 4096) % 4 ≠ 0) :
    Calls Try.prog 33 #[.agg #[.slice ma mn mc', .int .i64 md, .int .i64 mb], v] w fun e w' => ∃ u, e = .returned u ∧ ∃ L', CpuV w' u L' { c with st := 2 } ∧ (∀ x ∈ L', x ∈ L ∨ w.heap.size ≤ x) ∧ Tcs (fun g => g ∈ L) w w' := by
  obtain ⟨g, off, y1, n2, n3, n4, n5, x2, y2, x3, y3, x4, y4, x5, y5, rfl, hbk⟩ := h.shape32 hG.r32
  have A4 : Below w.heap.size w (((w.alloc (.cells #[.slice ma mn mc', .int .i64 md, .int .i64 mb] 25)).alloc (.cells #[.slice (some ⟨g, off, none⟩) 32 y1, .int .u32 c.pc, .slice x2 n2 y2, .slice x3 n3 y3, .slice x4 n4 y4, .slice x5 n5 y5, .int .u32 c.low, .int .i64 c.st] 32)).alloc (.cells #[.slice none 0 0, .int .u32 0, .slice none 0 0, .slice none 0 0, .slice none 0 0, .slice none 0 0, .int .u32 0, .int .i64 0] 32)) := (((Below.refl _ _).alloc (Nat.le_refl _) _).alloc (by simp) _).alloc (by simp; omega) _
  have hCb : (((w.alloc (.cells #[.slice ma mn mc', .int .i64 md, .int .i64 mb] 25)).alloc (.cells #[.slice (some ⟨g, off, none⟩) 32 y1, .int .u32 c.pc, .slice x2 n2 y2, .slice x3 n3 y3, .slice x4 n4 y4, .slice x5 n5 y5, .int .u32 c.low, .int .i64 c.st] 32)).alloc (.cells #[.slice none 0 0, .int .u32 0, .slice none 0 0, .slice none 0 0, .slice none 0 0, .slice none 0 0, .int .u32 0, .int .i64 0] 32)).heap[w.heap.size + 1]? = some (.cells #[.slice (some ⟨g, off, none⟩) 32 y1, .int .u32 c.pc, .slice x2 n2 y2, .slice x3 n3 y3, .slice x4 n4 y4, .slice x5 n5 y5, .int .u32 c.low, .int .i64 c.st] 32) := by
    rw [Below.heap_alloc _ _ _ (by simp)]
    have := heap_alloc_new (w.alloc (.cells #[.slice ma mn mc', .int .i64 md, .int .i64 mb] 25)) (.cells #[.slice (some ⟨g, off, none⟩) 32 y1, .int .u32 c.pc, .slice x2 n2 y2, .slice x3 n3 y3, .slice x4 n4 y4, .slice x5 n5 y5, .int .u32 c.low, .int .i64 c.st] 32)
    simpa only [World.size_alloc] using this
  have hgw : g < w.heap.size := h.lt g hbk
  have e1 : ¬ g = w.heap.size := by omega
  have e2 : ¬ g = w.heap.size + 1 := by omega
  have e3 : ¬ g = w.heap.size + 1 + 1 := by omega
  have hpc := hG.pcu
  have hs0 : (c.st != 0) = false := by rw [hst]; rfl
  have HST : Hid (c.st = 0) := hst
  clear hst
  have hq : ¬ c.pc - 4096 < 0 := by omega
  have hq4 : ¬ Int.tmod (c.pc - 4096) 4 = 0 := by rw [Int.tmod_eq_emod_of_nonneg (by omega)]; exact hp4
  have HX : Hid _ := And.intro h (And.intro A4 (Bx.of_heap hCb))
  clear h A4 hCb hbk
  go_enter Try.func33, Try.ntmps33
  go_wp2_with fail
  refine (fault_any _ L c _ (HX.out.1.below HX.out.2.1)).mono ?_
  rintro e w1 ⟨u1, rfl, cv1, hb1⟩
  obtain ⟨m1, m2, m3, m4, m5, a1, b1, a2, b2, a3, b3, a4, b4, a5, b5, rfl⟩ := cv1.shape
  have RB := (Bx.of_heap (by have := heap_alloc_new ((w.alloc (.cells #[.slice ma mn mc', .int .i64 md, .int .i64 mb] 25)).alloc (.cells #[.slice (some ⟨g, off, none⟩) 32 y1, .int .u32 c.pc, .slice x2 n2 y2, .slice x3 n3 y3, .slice x4 n4 y4, .slice x5 n5 y5, .int .u32 c.low, .int .i64 c.st] 32)) (.cells #[.slice none 0 0, .int .u32 0, .slice none 0 0, .slice none 0 0, .slice none 0 0, .slice none 0 0, .int .u32 0, .int .i64 0] 32); simpa only [World.size_alloc] using this : (((w.alloc (.cells #[.slice ma mn mc', .int .i64 md, .int .i64 mb] 25)).alloc (.cells #[.slice (some ⟨g, off, none⟩) 32 y1, .int .u32 c.pc, .slice x2 n2 y2, .slice x3 n3 y3, .slice x4 n4 y4, .slice x5 n5 y5, .int .u32 c.low, .int .i64 c.st] 32)).alloc (.cells #[.slice none 0 0, .int .u32 0, .slice none 0 0, .slice none 0 0, .slice none 0 0, .slice none 0 0, .int .u32 0, .int .i64 0] 32)).heap[w.heap.size + 1 + 1]? = _)).below hb1
  obtain ⟨z0, z1, z2, z3, z4, z5, z6, z7, zf⟩ := id RB
  have HV : Hid _ := And.intro cv1 (And.intro hb1 (And.intro HX.out.1.lt HX.out.2.1))
  clear cv1 hb1 RB HX
  dsimp only
  go_wp2
  refine bodyPost_ret (v := .agg #[.slice a1 m1 b1, .int .u32 c.pc, .slice a2 m2 b2, .slice a3 m3 b3, .slice a4 m4 b4, .slice a5 m5 b5, .int .u32 c.low, .int .i64 2]) (by simp [results, Try.results33, go_sem, z0, z1, z2, z3, z4, z5, z6, z7]) rfl ?_
  obtain ⟨cv1, hb1, hl, A4⟩ := HV.out
  refine ⟨_, rfl, L, cv1.tcs ((Tcs.refl (fun k => k = w.heap.size + 1 + 1) w1).set8 _ rfl _ _ _ _ _ _ _ _) (fun g hg e => by have := hl g hg; omega), fun x hx => .inl hx, ?_⟩
  exact ((Below.tcs (S := fun x => x ∈ L) A4).of_below hb1).new8 _ (by omega) _ _ _ _ _ _ _ _


set_option maxRecDepth 8000 in
set_option maxHeartbeats 1000000 in
theorem st_outC (ma : Option Addr) (mn mc' : Nat) (md mb : Int) (v : Value) (L : List Nat) (c : Mc) (w : World) (hG : Good c) (h : CpuV w v L c) (hst : c.st = 0) (hp : 4096 ≤ c.pc) (hp4 : (c.pc - 4096) % 4 = 0) (hpn : (mn : Int) ≤ (c.pc - 4096) / 4) :
    Calls Try.prog 33 #[.agg #[.slice ma mn mc', .int .i64 md, .int .i64 mb], v] w fun e w' => ∃ u, e = .returned u ∧ ∃ L', CpuV w' u L' { c with st := 2 } ∧ (∀ x ∈ L', x ∈ L ∨ w.heap.size ≤ x) ∧ Tcs (fun g => g ∈ L) w w' := by
  obtain ⟨g, off, y1, n2, n3, n4, n5, x2, y2, x3, y3, x4, y4, x5, y5, rfl, hbk⟩ := h.shape32 hG.r32
  have A4 : Below w.heap.size w (((w.alloc (.cells #[.slice ma mn mc', .int .i64 md, .int .i64 mb] 25)).alloc (.cells #[.slice (some ⟨g, off, none⟩) 32 y1, .int .u32 c.pc, .slice x2 n2 y2, .slice x3 n3 y3, .slice x4 n4 y4, .slice x5 n5 y5, .int .u32 c.low, .int .i64 c.st] 32)).alloc (.cells #[.slice none 0 0, .int .u32 0, .slice none 0 0, .slice none 0 0, .slice none 0 0, .slice none 0 0, .int .u32 0, .int .i64 0] 32)) := (((Below.refl _ _).alloc (Nat.le_refl _) _).alloc (by simp) _).alloc (by simp; omega) _
  have hCb : (((w.alloc (.cells #[.slice ma mn mc', .int .i64 md, .int .i64 mb] 25)).alloc (.cells #[.slice (some ⟨g, off, none⟩) 32 y1, .int .u32 c.pc, .slice x2 n2 y2, .slice x3 n3 y3, .slice x4 n4 y4, .slice x5 n5 y5, .int .u32 c.low, .int .i64 c.st] 32)).alloc (.cells #[.slice none 0 0, .int .u32 0, .slice none 0 0, .slice none 0 0, .slice none 0 0, .slice none 0 0, .int .u32 0, .int .i64 0] 32)).heap[w.heap.size + 1]? = some (.cells #[.slice (some ⟨g, off, none⟩) 32 y1, .int .u32 c.pc, .slice x2 n2 y2, .slice x3 n3 y3, .slice x4 n4 y4, .slice x5 n5 y5, .int .u32 c.low, .int .i64 c.st] 32) := by
    rw [Below.heap_alloc _ _ _ (by simp)]
    have := heap_alloc_new (w.alloc (.cells #[.slice ma mn mc', .int .i64 md, .int .i64 mb] 25)) (.cells #[.slice (some ⟨g, off, none⟩) 32 y1, .int .u32 c.pc, .slice x2 n2 y2, .slice x3 n3 y3, .slice x4 n4 y4, .slice x5 n5 y5, .int .u32 c.low, .int .i64 c.st] 32)
    simpa only [World.size_alloc] using this
  have hgw : g < w.heap.size := h.lt g hbk
  have e1 : ¬ g = w.heap.size := by omega
  have e2 : ¬ g = w.heap.size + 1 := by omega
  have e3 : ¬ g = w.heap.size + 1 + 1 := by omega
  have hpc := hG.pcu
  have hs0 : (c.st != 0) = false := by rw [hst]; rfl
  have HST : Hid (c.st = 0) := hst
  clear hst
  have hq : ¬ c.pc - 4096 < 0 := by omega
  have hq4 : Int.tmod (c.pc - 4096) 4 = 0 := by rw [Int.tmod_eq_emod_of_nonneg (by omega)]; exact hp4
  have hqd : Int.tdiv (c.pc - 4096) 4 = (c.pc - 4096) / 4 := Int.tdiv_eq_ediv_of_nonneg (by omega)
  have hqn : (mn : Int) ≤ Int.tdiv (c.pc - 4096) 4 := by rw [hqd]; exact hpn
  have HX : Hid _ := And.intro h (And.intro A4 (Bx.of_heap hCb))
  clear h A4 hCb hbk
  go_enter Try.func33, Try.ntmps33
  go_wp2_with fail
  refine (fault_any _ L c _ (HX.out.1.below HX.out.2.1)).mono ?_
  rintro e w1 ⟨u1, rfl, cv1, hb1⟩
  obtain ⟨m1, m2, m3, m4, m5, a1, b1, a2, b2, a3, b3, a4, b4, a5, b5, rfl⟩ := cv1.shape
  have RB := (Bx.of_heap (by have := heap_alloc_new ((w.alloc (.cells #[.slice ma mn mc', .int .i64 md, .int .i64 mb] 25)).alloc (.cells #[.slice (some ⟨g, off, none⟩) 32 y1, .int .u32 c.pc, .slice x2 n2 y2, .slice x3 n3 y3, .slice x4 n4 y4, .slice x5 n5 y5, .int .u32 c.low, .int .i64 c.st] 32)) (.cells #[.slice none 0 0, .int .u32 0, .slice none 0 0, .slice none 0 0, .slice none 0 0, .slice none 0 0, .int .u32 0, .int .i64 0] 32); simpa only [World.size_alloc] using this : (((w.alloc (.cells #[.slice ma mn mc', .int .i64 md, .int .i64 mb] 25)).alloc (.cells #[.slice (some ⟨g, off, none⟩) 32 y1, .int .u32 c.pc, .slice x2 n2 y2, .slice x3 n3 y3, .slice x4 n4 y4, .slice x5 n5 y5, .int .u32 c.low, .int .i64 c.st] 32)).alloc (.cells #[.slice none 0 0, .int .u32 0, .slice none 0 0, .slice none 0 0, .slice none 0 0, .slice none 0 0, .int .u32 0, .int .i64 0] 32)).heap[w.heap.size + 1 + 1]? = _)).below hb1
  obtain ⟨z0, z1, z2, z3, z4, z5, z6, z7, zf⟩ := id RB
  have HV : Hid _ := And.intro cv1 (And.intro hb1 (And.intro HX.out.1.lt HX.out.2.1))
  clear cv1 hb1 RB HX
  dsimp only
  go_wp2
  refine bodyPost_ret (v := .agg #[.slice a1 m1 b1, .int .u32 c.pc, .slice a2 m2 b2, .slice a3 m3 b3, .slice a4 m4 b4, .slice a5 m5 b5, .int .u32 c.low, .int .i64 2]) (by simp [results, Try.results33, go_sem, z0, z1, z2, z3, z4, z5, z6, z7]) rfl ?_
  obtain ⟨cv1, hb1, hl, A4⟩ := HV.out
  refine ⟨_, rfl, L, cv1.tcs ((Tcs.refl (fun k => k = w.heap.size + 1 + 1) w1).set8 _ rfl _ _ _ _ _ _ _ _) (fun g hg e => by have := hl g hg; omega), fun x hx => .inl hx, ?_⟩
  exact ((Below.tcs (S := fun x => x ∈ L) A4).of_below hb1).new8 _ (by omega) _ _ _ _ _ _ _ _

end Go.Proofs.Ytabjcodpagjbjaa
