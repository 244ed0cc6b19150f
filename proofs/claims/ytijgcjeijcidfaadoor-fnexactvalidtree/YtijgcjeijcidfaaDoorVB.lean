import Derived.Test.YtijgcjeijcidfaaDoorVA
namespace Go.Proofs.YtijgcjeijcidfaaDoor
open Go.RowKit
set_option linter.unusedVariables false
set_option linter.unusedSimpArgs false

theorem cut_run2 (a : Option Addr) (n cap lo hi : Nat) (h1 : lo ≤ hi) (h2 : hi ≤ n) (h3 : n ≤ cap) (l' h' : Int) (hl' : l' = lo) (hh' : h' = hi) : ∀ w : World, (Instr.slice 43 (.slice a n cap) (some (.int .i64 l')) (some (.int .i64 h')) none).run Tryd.prog w = .ok (.slice (if cap = lo then a else a.map (·.add (lo * 6))) (hi - lo) (cap - lo)) w := by
  intro w
  have h := cut_run a n cap lo hi h1 h2 h3 w
  rw [show ((lo : Int) + ((hi - lo : Nat) : Int)) = hi by omega] at h
  rw [hl', hh']
  exact h
def nonneg (ss : List St) : Prop := ∀ s ∈ ss, 0 ≤ s.thn ∧ 0 ≤ s.els
theorem nonneg.take {ss : List St} (h : nonneg ss) (n : Nat) : nonneg (ss.take n) := fun s hs => h s (List.mem_of_mem_take hs)
theorem nonneg.drop {ss : List St} (h : nonneg ss) (n : Nat) : nonneg (ss.drop n) := fun s hs => h s (List.mem_of_mem_drop hs)

set_option maxHeartbeats 2000000 in
theorem shaped_any (n : Nat) : ∀ (v : Value) (ss : List St) (w : World) (hn : ss.length ≤ n) (hl : ss.length ≤ 1048576) (hp : nonneg ss) (hc : Stmts w v ss),
    Calls Tryd.prog 26 #[v] w fun e w' => e = .returned (.bool (fitB ss)) ∧ Below w.heap.size w w' := by
  induction n with
  | zero =>
    intro v ss w hn hl hp hc
    have : ss = [] := List.eq_nil_of_length_eq_zero (by omega)
    subst this
    obtain ⟨a, cap, rfl, hcl, hcm, hc⟩ := hc
    simp only [List.length_nil] at *
    clear hc hp
    go_enter Tryd.func26, Tryd.ntmps26
    go_wp2_with fail
    refine wp_loop_rounds 1 ?_
    rw [rounds_succ]
    go_wp2_with fail
    go_ret
    exact ⟨rfl, Below.refl _ _⟩
  | succ n ih =>
  intro v ss w hn hl hp hc
  have IH : Hid (∀ (v : Value) (ss : List St) (w : World) (hn : ss.length ≤ n) (hl : ss.length ≤ 1048576) (hp : nonneg ss) (hc : Stmts w v ss), Calls Tryd.prog 26 #[v] w fun e w' => e = .returned (.bool (fitB ss)) ∧ Below w.heap.size w w') := ih
  have HP : Hid (nonneg ss) := hp
  have HN : Hid (Stmts w v ss) := hc
  obtain ⟨a, cap, rfl, hcl, hcm, hc⟩ := hc
  have HC : Hid (0 < ss.length → ∃ b off, a = some ⟨b, off, none⟩ ∧ StmtsC w b off ss) := hc
  clear hc ih hp
  go_enter Tryd.func26, Tryd.ntmps26
  go_wp2_with fail
  go_loopw [3] (fun i wr => ∃ k : Nat, k ≤ ss.length ∧ i = .int .i64 k ∧ fitB ss = fitB (ss.drop k) ∧ Below w.heap.size w wr) (fun i _ => ss.length - (intOf i).toNat)
  case atStart => exact ⟨0, Nat.zero_le _, rfl, rfl, Below.refl _ _⟩
  case round =>
    obtain ⟨k, hk, rfl, hfit, hB⟩ := hrel
    have HF : Hid (fitB ss = fitB (ss.drop k)) := hfit
    clear hfit
    by_cases hlt : k < ss.length
    case neg =>
      go_wp2_with fail
      go_ret
      exact ⟨ret_bool (by rw [HF.out, List.drop_of_length_le (by omega)]; rfl), hB⟩
    case pos =>
      obtain ⟨b, off, rfl, hs⟩ := HC.out (by omega)
      obtain ⟨ve, vf, ⟨c0, c1, c2, c3, c4, c5⟩, he, hf⟩ := (hs.below hB) k hlt
      have HFC : Hid _ := (HF.out.trans (congrArg fitB (List.drop_eq_getElem_cons hlt))).trans (fitB_cons ss[k] (ss.drop (k + 1)))
      have hnn := HP.out ss[k] (List.getElem_mem hlt)
      obtain ⟨a2, k2, rfl, -, -, -⟩ := he
      obtain ⟨a3, k3, rfl, -, -, -⟩ := hf
      clear hs HC HF
      generalize hr : ss.drop (k + 1) = r at HFC
      have hrl : r.length + k + 1 = ss.length := by rw [← hr]; simp; omega
      generalize ss[k].kind = kI at c0
      generalize ss[k].name = nI at c1
      generalize ss[k].thn = tI at c4 HFC hnn
      generalize ss[k].els = lI at c5 HFC hnn
      generalize ss[k].e.length = n2 at c2
      generalize ss[k].f.length = n3 at c3
      obtain ⟨tn, rfl⟩ := Int.eq_ofNat_of_zero_le hnn.1
      obtain ⟨ln, rfl⟩ := Int.eq_ofNat_of_zero_le hnn.2
      clear hnn
      have HR : Hid (ss.drop (k + 1) = r) := hr
      have HRL : Hid (r.length + k + 1 = ss.length) := hrl
      have hB1 : Below w.heap.size w (wr.alloc (.cells #[.int .i64 kI, .string nI, .slice a2 n2 k2, .slice a3 n3 k3, .int .i64 tn, .int .i64 ln] 60)) := hB.alloc hB.size _
      clear hr
      by_cases q2 : (ss.length : Int) - k - 1 < tn
      · clear hrl
        go_wp2_with fail
        go_ret
        exact ⟨ret_bool (by have := HRL.out; rw [HFC.out, decide_eq_false (by omega)]; rfl), hB1⟩
      by_cases q4 : (ss.length : Int) - k - 1 - tn < ln
      · clear hrl
        go_wp2_with fail
        go_ret
        exact ⟨ret_bool (by have := HRL.out; rw [HFC.out, decide_eq_false (by omega)]; rfl), hB1⟩
      have hlt2 : k + 1 + tn + ln ≤ ss.length := by omega
      have HC1 : Hid (fitB ss = (fitB (r.take tn) && (fitB ((r.take (tn + ln)).drop tn) && fitB (r.drop (tn + ln))))) := by
        show _ = _
        rw [HFC.out, decide_eq_true (by omega)]; simp
      have HE1 : Hid ((ss.take (k + 1 + tn)).drop (k + 1) = r.take tn) := by
        show _ = _
        rw [← HR.out, List.drop_take]; congr 1; omega
      have HE2 : Hid ((ss.take (k + 1 + tn + ln)).drop (k + 1 + tn) = (r.take (tn + ln)).drop tn) := by
        show _ = _
        rw [← HR.out, List.drop_take, List.drop_take, List.drop_drop]; congr 1; omega
      have HE3 : Hid (ss.drop (k + 1 + tn + ln) = r.drop (tn + ln)) := by
        show _ = _
        rw [← HR.out, List.drop_drop]; congr 1; omega
      obtain ⟨a5, k5, hr5, hs5⟩ : ∃ a5 k5, (∀ w : World, (Instr.slice 43 (.slice (some ⟨b, off, none⟩) ss.length cap) (some (.int .i64 ((k : Int) + 1))) (some (.int .i64 ((k : Int) + 1 + (tn : Int)))) none).run Tryd.prog w = .ok (.slice a5 tn k5) w) ∧ Stmts w (.slice a5 tn k5) (r.take tn) := by
        have h := cut_run2 (some ⟨b, off, none⟩) ss.length cap (k + 1) (k + 1 + tn) (by omega) (by omega) (by omega) ((k : Int) + 1) ((k : Int) + 1 + (tn : Int)) (by omega) (by omega)
        have h' := HN.out.cut (k + 1) (k + 1 + tn) (by omega) (by omega)
        rw [show k + 1 + tn - (k + 1) = tn by omega] at h h'
        rw [HE1.out] at h'
        exact ⟨_, _, h, h'⟩
      have HS5 : Hid (Stmts w (.slice a5 tn k5) (r.take tn)) := hs5
      clear hs5 HFC hrl
      go_wp2_with fail
      refine (IH.out _ (r.take tn) _ (by have := HRL.out; simp; omega) (by have := HRL.out; simp; omega) (by rw [← HR.out]; exact (HP.out.drop _).take _) (HS5.out.below hB1)).mono ?_
      rintro e w1 ⟨rfl, hb1⟩
      have hb1' : Below (wr.heap.size + 1) (wr.alloc (.cells #[.int .i64 kI, .string nI, .slice a2 n2 k2, .slice a3 n3 k3, .int .i64 tn, .int .i64 ln] 60)) w1 := hb1.mono (by simp)
      have hB2 := hB.trans ((one_below hb1').mono hB.size)
      obtain ⟨x0, x1, x2, x3, x4, x5⟩ := box6 hb1'
      clear hb1 hr5 HS5
      cases hf1 : fitB (r.take tn)
      · go_wp2_with fail
        go_ret
        exact ⟨ret_bool (by rw [HC1.out, hf1]; rfl), hB2⟩
      obtain ⟨a6, k6, hr6, hs6⟩ : ∃ a6 k6, (∀ w : World, (Instr.slice 43 (.slice (some ⟨b, off, none⟩) ss.length cap) (some (.int .i64 ((k : Int) + 1 + (tn : Int)))) (some (.int .i64 ((k : Int) + 1 + (tn : Int) + (ln : Int)))) none).run Tryd.prog w = .ok (.slice a6 ln k6) w) ∧ Stmts w (.slice a6 ln k6) ((r.take (tn + ln)).drop tn) := by
        have h := cut_run2 (some ⟨b, off, none⟩) ss.length cap (k + 1 + tn) (k + 1 + tn + ln) (by omega) (by omega) (by omega) ((k : Int) + 1 + (tn : Int)) ((k : Int) + 1 + (tn : Int) + (ln : Int)) (by omega) (by omega)
        have h' := HN.out.cut (k + 1 + tn) (k + 1 + tn + ln) (by omega) (by omega)
        rw [show k + 1 + tn + ln - (k + 1 + tn) = ln by omega] at h h'
        rw [HE2.out] at h'
        exact ⟨_, _, h, h'⟩
      have HS6 : Hid (Stmts w (.slice a6 ln k6) ((r.take (tn + ln)).drop tn)) := hs6
      clear hs6
      go_wp2_with fail
      refine (IH.out _ ((r.take (tn + ln)).drop tn) _ (by have := HRL.out; simp; omega) (by have := HRL.out; simp; omega) (by rw [← HR.out]; exact ((HP.out.drop _).take _).drop _) (HS6.out.below hB2)).mono ?_
      rintro e w2 ⟨rfl, hb2⟩
      have hb2' := hb1'.trans (hb2.mono (by have := hb1'.size; simp at this; omega))
      have hB3 := hB.trans ((one_below hb2').mono hB.size)
      clear x0 x1 x2 x3 x4 x5 hr6
      obtain ⟨x0, x1, x2, x3, x4, x5⟩ := box6 hb2'
      cases hf2 : fitB ((r.take (tn + ln)).drop tn)
      · go_wp2_with fail
        go_ret
        exact ⟨ret_bool (by rw [HC1.out, hf1, hf2]; rfl), hB3⟩
      go_wp2_with fail
      go_roundw
      case rel => exact ⟨k + 1 + tn + ln, by omega, by go_num, by rw [HC1.out, hf1, hf2, HE3.out]; rfl, hB3⟩
      case measure => simp [intOf]; omega

end Go.Proofs.YtijgcjeijcidfaaDoor
