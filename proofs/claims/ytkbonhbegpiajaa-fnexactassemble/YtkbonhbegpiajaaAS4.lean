import Derived.Test.YtkbonhbegpiajaaAS3
namespace Go.Proofs.Ytkbonhbegpiajaa
open Go.RowKit
set_option linter.unusedVariables false
set_option linter.unusedSimpArgs false

theorem plN_mono {its : List It} {l l' : List Bool} (h : ∀ i, l.getD i false = true → l'.getD i false = true) (n : Nat) : plN its l n ≤ plN its l' n := by
  induction n with
  | zero => exact Nat.le_refl _
  | succ n ih =>
    simp only [plN]
    have : szB (its.getD n it0) (l.getD n false) ≤ szB (its.getD n it0) (l'.getD n false) := by
      have hn := h n
      cases e : l.getD n false <;> cases e' : l'.getD n false
      · exact Nat.le_refl _
      · unfold szB; split <;> simp
      · rw [hn e] at e'; cases e'
      · exact Nat.le_refl _
    omega
theorem plN_lt {its : List It} {l l' : List Bool} (h : ∀ i, l.getD i false = true → l'.getD i false = true) {i n : Nat} (hi : i < n) (hk : (its.getD i it0).kind ≠ 2) (h1 : l.getD i false = false) (h2 : l'.getD i false = true) : plN its l n < plN its l' n := by
  induction n with
  | zero => omega
  | succ n ih =>
    simp only [plN]
    by_cases e : i = n
    · subst e
      have := plN_mono (its := its) h i
      rw [h1, h2]
      have e1 : szB (its.getD i it0) false = 1 := by unfold szB; rw [if_neg hk]; rfl
      have e2 : szB (its.getD i it0) true = 2 := by unfold szB; rw [if_neg hk]; rfl
      omega
    · have := ih (by omega)
      have : szB (its.getD n it0) (l.getD n false) ≤ szB (its.getD n it0) (l'.getD n false) := by
        have hn := h n
        cases e : l.getD n false <;> cases e' : l'.getD n false
        · exact Nat.le_refl _
        · unfold szB; split <;> simp
        · rw [hn e] at e'; cases e'
        · exact Nat.le_refl _
      omega
/-- The branches. -/
def brs (its : List It) : List Nat := (List.range its.length).filter (fun i => decide ((its.getD i it0).kind = 3))
theorem brs_mem {its : List It} {i : Nat} (h : i ∈ brs its) : i < its.length ∧ (its.getD i it0).kind = 3 := by
  simpa only [brs, List.mem_filter, List.mem_range, decide_eq_true_eq] using h
theorem mem_brs {its : List It} {i : Nat} (h : i < its.length) (hk : (its.getD i it0).kind = 3) : i ∈ brs its := by
  simp only [brs, List.mem_filter, List.mem_range, decide_eq_true_eq]
  exact ⟨h, hk⟩
theorem brs_len (its : List It) : (brs its).length ≤ its.length := by
  have := List.length_filter_le (fun i => decide ((its.getD i it0).kind = 3)) (List.range its.length)
  simpa [brs] using this
theorem grows_brs {its : List It} {lg : List Bool} {i : Nat} (hi : i < its.length) (h : grows its lg i = true) : i ∈ brs its := by
  refine mem_brs hi ?_
  unfold grows at h
  simp only [Bool.and_eq_true, decide_eq_true_eq] at h
  exact h.1.1
theorem lgAfter_turn {its : List It} {L : Nat → Bool} {n : Nat} (hn : its.length = n) : lgL (lgAfter its (lgL L n) L (brs its)) n = turn its (lgL L n) := by
  apply List.ext_getElem
  · simp [lgL_len, turn_len]
  · intro i h1 h2
    have hi : i < n := by simpa [lgL_len] using h1
    have e1 : (lgL (lgAfter its (lgL L n) L (brs its)) n)[i] = lgAfter its (lgL L n) L (brs its) i := by simp [lgL]
    have e2 : (turn its (lgL L n))[i] = ((lgL L n).getD i false || grows its (lgL L n) i) := by
      have := turn_at its (lgL L n) i (by rw [lgL_len]; exact hi)
      rw [← this]
      simp [List.getD, h2]
    rw [e1, e2, lgL_at L n i hi]
    unfold lgAfter
    cases hg : grows its (lgL L n) i
    · simp
    · rw [decide_eq_true (grows_brs (by omega) hg)]
      simp
theorem turn_same {its : List It} {lg : List Bool} (hl : lg.length = its.length) (h : (brs its).any (grows its lg) = false) : turn its lg = lg := by
  have h' : ∀ i, i < its.length → grows its lg i = false := by
    intro i hi
    cases hg : grows its lg i
    · rfl
    · have := List.any_eq_true.2 ⟨i, grows_brs hi hg, hg⟩
      rw [this] at h
      cases h
  apply List.ext_getElem
  · exact turn_len _ _
  · intro i h1 h2
    have e2 : (turn its lg)[i] = (lg.getD i false || grows its lg i) := by
      rw [← turn_at its lg i h2]
      simp [List.getD, h1]
    rw [e2, h' i (by omega)]
    simp [List.getD, h2]
theorem turn_more {its : List It} {lg : List Bool} (hl : lg.length = its.length) (h : (brs its).any (grows its lg) = true) : plN its lg its.length < plN its (turn its lg) its.length := by
  obtain ⟨i, hi, hg⟩ := List.any_eq_true.1 h
  obtain ⟨h1, h2⟩ := brs_mem hi
  refine plN_lt (fun j hj => ?_) (i := i) h1 (by omega) ?_ ?_
  · have hjl : j < lg.length := by
      by_cases hh : j < lg.length
      · exact hh
      · simp [List.getD, List.getElem?_eq_none (by omega : lg.length ≤ j)] at hj
    rw [turn_at its lg j hjl, hj]
    rfl
  · unfold grows at hg
    simp only [Bool.and_eq_true, Bool.not_eq_true'] at hg
    exact hg.1.2
  · rw [turn_at its lg i (by omega), hg]
    simp

set_option maxHeartbeats 4000000 in
theorem settle_any (B g n : Nat) (pa : Option Addr) (cap : Nat) (vb : Value) (its : List It) (A : Nat → Int) (G : Nat → Value) (L : Nat → Bool) (w : World) (hB : B ≠ g) (hBs : B < w.heap.size) (hgs : 0 < n → g < w.heap.size) (hn : n ≤ 20000) (hc : n ≤ cap) (h : Asm w B g n pa cap vb its A G L)
    (hL : lgL L n = turns its 0) (hG : GoOk its g G) (hbr : BRow w g vb (brs its)) (hlk : Linked its) :
    Calls Try.prog 21 #[.pointer (some ⟨B, 0, none⟩)] w fun e w' => ∃ lg A' L', Fin its lg ∧ lgL L' n = lg ∧ e = .returned (.int .i64 ((plN its lg n : Nat) : Int)) ∧ Tn g w w' ∧ Asm w' B g n pa cap vb its A' G L' ∧ ∀ i, i < n → A' i = 4 * ((plN its lg i : Nat) : Int) := by
  have H : Hid (Asm w B g n pa cap vb its A G L) := h
  have HG : Hid (GoOk its g G) := hG
  have HBr : Hid (BRow w g vb (brs its)) := hbr
  have HLk : Hid (Linked its) := hlk
  have hlen := h.len
  have HL : Hid (lgL L n = turns its 0) := hL
  clear h hG hlk hbr hL
  go_enter Try.func21, Try.ntmps21
  go_wp2_with fail
  refine (place_any B g n pa cap vb its A G L w hB hn hc H.out).mono ?_
  rintro e w1 ⟨rfl, hT1, hA1⟩
  rw [HL.out] at hA1 ⊢
  have HA1 : Hid (Asm w1 B g n pa cap vb its (fun i => if i < n then 4 * ((plN its (turns its 0) i : Nat) : Int) else A i) G L) := hA1
  have HT1 : Hid (Tn g w w1) := Tn.of hT1
  clear hT1 hA1
  go_wp2_with fail
  go_loopw [3] (fun q wr => ∃ (m : Nat) (A' : Nat → Int) (L' : Nat → Bool), q = .int .i64 ((plN its (turns its m) n : Nat) : Int) ∧ lgL L' n = turns its m ∧ Tn g w wr ∧ Asm wr B g n pa cap vb its A' G L' ∧ ∀ i, i < n → A' i = 4 * ((plN its (turns its m) i : Nat) : Int)) (fun q _ => 2 * n - (intOf q).toNat)
  case atStart => exact ⟨0, _, L, rfl, HL.out, HT1.out, HA1.out, fun i hi => if_pos hi⟩
  case round =>
    clear HA1 HT1
    obtain ⟨m, A', L', rfl, hL', hT, hA, hA'⟩ := hrel
    have HA : Hid (Asm wr B g n pa cap vb its A' G L') := hA
    have HT : Hid (Tn g w wr) := hT
    have HL' : Hid (lgL L' n = turns its m) := hL'
    have HA' : Hid (∀ i, i < n → A' i = 4 * ((plN its (turns its m) i : Nat) : Int)) := hA'
    have hBw : B < wr.heap.size := Nat.lt_of_lt_of_le hBs hT.size
    have hgw : 0 < n → g < wr.heap.size := fun h => Nat.lt_of_lt_of_le (hgs h) hT.size
    clear hA hT hL' hA'
    have hbl : (brs its).length ≤ n := by rw [← hlen]; exact brs_len its
    go_wp2_with fail
    refine (lengthen_any B g n pa cap vb its A' G L' (brs its) wr hB hBw hgw hn HA.out (by rw [HL'.out]; exact HA'.out) HG.out (HBr.out.tn HT.out) (fun i hi => by have := brs_mem hi; rw [hlen] at this; exact this) hbl HLk.out).mono ?_
    rintro e w2 ⟨rfl, hT2, hP2⟩
    have HT2 : Hid (Tn g w w2) := HT.out.trans hT2
    have b0 := (hT2.cell (o := 0) hBw hB).trans HA.out.box
    have b1 := (hT2.cell (o := 1) hBw hB).trans HA.out.brs
    have HA2 : Hid (Asm w2 B g n pa cap vb its A' G (lgAfter its (lgL L' n) L' (brs its))) := ⟨HA.out.len, b0, HA.out.row, hP2, b1⟩
    have HTu : Hid (lgL (lgAfter its (lgL L' n) L' (brs its)) n = turns its (m + 1)) := by show _ = _; rw [lgAfter_turn hlen, HL'.out]; rfl
    rw [HL'.out]
    clear hT2 hP2 b0 b1
    have htl := turns_len its m
    cases hany : (brs its).any (grows its (turns its m))
    · have HF : Hid (Fin its (turns its m)) := ⟨⟨m, rfl⟩, turn_same htl hany⟩
      have HTs : Hid (turns its (m + 1) = turns its m) := HF.out.2
      clear hany
      go_wp2_with fail
      go_ret
      exact ⟨turns its m, A', _, HF.out, by rw [← HTs.out]; exact HTu.out, rfl, HT2.out, HA2.out, HA'.out⟩
    · have hmore := turn_more htl hany
      rw [hlen] at hmore
      have hmore2 : plN its (turns its m) n < plN its (turns its (m + 1)) n := hmore
      have hle := plN_le its (turns its (m + 1)) n
      clear hany hmore
      go_wp2_with fail
      refine (place_any B g n pa cap vb its A' G _ w2 hB hn hc HA2.out).mono ?_
      rintro e w3 ⟨rfl, hT3, hA3⟩
      rw [HTu.out] at hA3 ⊢
      have HA3 : Hid (Asm w3 B g n pa cap vb its (fun i => if i < n then 4 * ((plN its (turns its (m + 1)) i : Nat) : Int) else A' i) G (lgAfter its (lgL L' n) L' (brs its))) := hA3
      have HT3 : Hid (Tn g w w3) := HT2.out.trans (Tn.of hT3)
      clear hT3 hA3
      go_wp2_with fail
      go_roundw
      case rel => exact ⟨m + 1, _, _, rfl, HTu.out, HT3.out, HA3.out, fun i hi => if_pos hi⟩
      case measure => simp [intOf]; omega

end Go.Proofs.Ytkbonhbegpiajaa
