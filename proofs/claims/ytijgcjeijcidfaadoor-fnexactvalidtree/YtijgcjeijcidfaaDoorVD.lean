import Derived.Test.YtijgcjeijcidfaaDoorVC
namespace Go.Proofs.YtijgcjeijcidfaaDoor
open Go.RowKit
set_option linter.unusedVariables false
set_option linter.unusedSimpArgs false

set_option maxHeartbeats 2000000 in
theorem gfunc_any (f : Fu) (vp vb : Value) (w : World) (hf : smallF f) (hp : Strs w vp f.params) (hb : Stmts w vb f.body) :
    Calls Tryd.prog 13 #[.agg #[.string f.name, vp, vb]] w fun e w' => e = .returned (.bool (funcB f)) ∧ Below w.heap.size w w' := by
  obtain ⟨name, ps, ss⟩ := f
  simp only at hp hb ⊢
  have HP : Hid (Strs w vp ps) := hp
  have HS : Hid (Stmts w vb ss) := hb
  have HF : Hid (ps.length ≤ 1048576 ∧ ss.length ≤ 1048576 ∧ ∀ s ∈ ss, smallS s) := hf
  have hpl : ps.length ≤ 1048576 := HF.out.1
  have hsl : ss.length ≤ 1048576 := HF.out.2.1
  obtain ⟨ap, cp, rfl, -, -, hpc⟩ := hp
  obtain ⟨ab, cb, rfl, -, -, hbc⟩ := hb
  have HPC : Hid (0 < ps.length → ∃ b off, ap = some ⟨b, off, none⟩ ∧ StrsC w b off ps) := hpc
  have HBC : Hid (0 < ss.length → ∃ b off, ab = some ⟨b, off, none⟩ ∧ StmtsC w b off ss) := hbc
  clear hpc hbc hf
  go_enter Tryd.func13, Tryd.ntmps13
  go_wp2_with fail
  refine (name_any _ _).mono ?_
  rintro e w1 ⟨rfl, rfl⟩
  have hb1 : Below (w.heap.size + 1) (w.alloc (.cells #[.string name, .slice ap ps.length cp, .slice ab ss.length cb] 45)) (w.alloc (.cells #[.string name, .slice ap ps.length cp, .slice ab ss.length cb] 45)) := Below.refl _ _
  have hB1 := one_below hb1
  obtain ⟨x0, x1, x2⟩ := box3 hb1
  cases hn : nameB name
  · go_wp2_with fail
    go_ret
    exact ⟨ret_bool (by simp only [funcB, hn, Bool.false_and]), hB1⟩
  by_cases h6 : 6 < ps.length
  · go_wp2_with fail
    go_ret
    exact ⟨ret_bool (by simp only [funcB, hn, decide_eq_false (show ¬ ps.length ≤ 6 by omega), Bool.false_and, Bool.and_false]), hB1⟩
  by_cases h5 : 500 < ss.length
  · go_wp2_with fail
    go_ret
    exact ⟨ret_bool (by simp only [funcB, hn, decide_eq_false (show ¬ ss.length ≤ 500 by omega), Bool.false_and, Bool.and_false]), hB1⟩
  have HFB : Hid (funcB ⟨name, ps, ss⟩ = (ps.all nameB && (stmtsB gstmtB ss && fitB ss))) := by
    show _ = _
    rw [gstmts_fit]
    simp only [funcB, hn, decide_eq_true (show ps.length ≤ 6 by omega), decide_eq_true (show ss.length ≤ 500 by omega), Bool.true_and]
  go_wp2_with fail
  clear x0 x1 x2
  go_loopw [3] (fun i wr => ∃ k : Nat, k ≤ ps.length ∧ i = .int .i64 k ∧ (∀ s ∈ ps.take k, nameB s = true) ∧ Below (w.heap.size + 1) (w.alloc (.cells #[.string name, .slice ap ps.length cp, .slice ab ss.length cb] 45)) wr) (fun i _ => ps.length - (intOf i).toNat)
  case atStart => exact ⟨0, Nat.zero_le _, rfl, by simp, hb1⟩
  case round =>
    obtain ⟨k, hk, rfl, hg, hB⟩ := hrel
    have HG : Hid (∀ s ∈ ps.take k, nameB s = true) := hg
    clear hg hb1 hB1
    have hBw := one_below hB
    by_cases hlt : k < ps.length
    · obtain ⟨b, off, rfl, hc⟩ := HPC.out (by omega)
      have d0 := (hc.below hBw) k hlt
      have HE : Hid (ps.take (k + 1) = ps.take k ++ [ps[k]]) := take_succ ps k hlt
      have HX : Hid (nameB ps[k] = false → ps.all nameB = false) := all_bad hlt
      clear hc
      generalize ps[k] = s at d0 HE HX
      obtain ⟨x0, x1, x2⟩ := box3 hB
      have hB2 := hB
      cases hv : nameB s
      · go_wp2_with (go_at_call 11; refine (name_any _ _).mono ?_; rintro e w' ⟨rfl, rfl⟩; rw [hv])
        go_ret
        exact ⟨ret_bool (by rw [HFB.out, HX.out hv]; rfl), one_below hB2⟩
      · go_wp2_with (go_at_call 11; refine (name_any _ _).mono ?_; rintro e w' ⟨rfl, rfl⟩; rw [hv])
        go_roundw
        case rel =>
          refine ⟨k + 1, by omega, by go_num, fun m hm => ?_, hB2⟩
          rw [HE.out] at hm
          rcases List.mem_append.1 hm with hm | hm
          · exact HG.out m hm
          · rw [List.mem_singleton.1 hm]; exact hv
        case measure => simp [intOf]; omega
    · have HA : Hid (ps.all nameB = true) := by
        show _ = _
        rw [List.all_eq_true]
        have := HG.out
        rw [List.take_of_length_le (by omega)] at this
        exact this
      clear HG HPC
      obtain ⟨x0, x1, x2⟩ := box3 hB
      go_wp2_with fail
      clear x0 x1 x2
      go_loopw [4, 5] (fun q i wr => ∃ k : Nat, k ≤ ss.length ∧ i = .int .i64 k ∧ q = .int .i64 (nodeSum (ss.take k) : Nat) ∧ nodeSum (ss.take k) ≤ 2000 ∧ (∀ s ∈ ss.take k, gstmtB s = true) ∧ Below (w.heap.size + 1) (w.alloc (.cells #[.string name, .slice ap ps.length cp, .slice ab ss.length cb] 45)) wr) (fun _ i _ => ss.length - (intOf i).toNat)
      case atStart => exact ⟨0, Nat.zero_le _, rfl, rfl, by simp [nodeSum], by simp, hB⟩
      case round =>
        clear hB hBw hlt
        obtain ⟨k, hk, rfl, rfl, hq, hg, hB⟩ := hrel
        have HG : Hid (∀ s ∈ ss.take k, gstmtB s = true) := hg
        clear hg
        have hBw := one_below hB
        by_cases hlt : k < ss.length
        · obtain ⟨b, off, rfl, hc⟩ := HBC.out (by omega)
          obtain ⟨ve, vf, ⟨c0, c1, c2, c3, c4, c5⟩, he, hf⟩ := (hc.below hBw) k hlt
          have HE : Hid (ss.take (k + 1) = ss.take k ++ [ss[k]]) := take_succ ss k hlt
          have HX : Hid (gstmtB ss[k] = false → stmtsB gstmtB ss = false) := stmtsB_bad hlt
          have HQ : Hid _ := nodeSum_step ss k hlt
          have HY : Hid (2000 < nodeSum (ss.take (k + 1)) → stmtsB gstmtB ss = false) := stmtsB_sum
          have hsm := HF.out.2.2 ss[k] (List.getElem_mem hlt)
          clear hc
          generalize ss[k] = s at c0 c1 c2 c3 c4 c5 he hf HE HX HQ hsm
          generalize nodeSum (ss.take k) = q at hq HQ
          have HNE : Hid (Nodes wr ve s.e) := he
          have HNF : Hid (Nodes wr vf s.f) := hf
          obtain ⟨a2, k2, rfl, -, -, -⟩ := he
          obtain ⟨a3, k3, rfl, -, -, -⟩ := hf
          have hs1 := hsm.1
          have hs2 := hsm.2
          clear hsm
          obtain ⟨x0, x1, x2⟩ := box3 hB
          go_wp2_with fail
          go_quiet (fail)
          have hBq : Below (w.heap.size + 1) (w.alloc (.cells #[.string name, .slice ap ps.length cp, .slice (some ⟨b, off, none⟩) ss.length cb] 45)) (wr.drewN nq) := below_drewN hB nq
          have hBwq := one_below hBq
          have hBy : Below wr.heap.size wr (wr.drewN nq) := below_drewN (Below.refl _ _) nq
          by_cases hs : 2000 < q + s.e.length + s.f.length
          · go_wp2_with fail
            go_ret
            exact ⟨ret_bool (by rw [HFB.out, HY.out (by rw [HQ.out]; omega)]; simp), hBwq⟩
          · go_wp2_with fail
            refine (gstmt_any s _ _ _ (by omega) (by omega) (HNE.out.below hBy) (HNF.out.below hBy)).mono ?_
            rintro e w2 ⟨rfl, hb2⟩
            have hB2 := hBq.trans (hb2.mono (by have := hBq.size; simp at this; simp; omega))
            clear c0 c1 c2 c3 c4 c5 hb2
            cases hv : gstmtB s
            · go_wp2_with fail
              go_ret
              exact ⟨ret_bool (by rw [HFB.out, HX.out hv]; simp), one_below hB2⟩
            · go_wp2_with fail
              go_roundw
              case rel =>
                refine ⟨k + 1, by omega, by go_num, ?_, by rw [HQ.out]; omega, fun m hm => ?_, hB2⟩
                · rw [HQ.out]; congr 1
                · rw [HE.out] at hm
                  rcases List.mem_append.1 hm with hm | hm
                  · exact HG.out m hm
                  · rw [List.mem_singleton.1 hm]; exact hv
              case measure => simp [intOf]; omega
        · have HA2 : Hid (stmtsB gstmtB ss = true) := by
            show _ = _
            have h1 := HG.out
            rw [List.take_of_length_le (by omega)] at h1 hq
            exact stmtsB_ok hq h1
          have HNN : Hid (nonneg ss) := by
            have h1 := HG.out
            rw [List.take_of_length_le (by omega)] at h1
            exact gstmts_nonneg h1
          obtain ⟨x0, x1, x2⟩ := box3 hB
          go_wp2_with fail
          refine (shaped_any ss.length _ ss _ (Nat.le_refl _) hsl HNN.out (HS.out.below hBw)).mono ?_
          rintro e w2 ⟨rfl, hb2⟩
          clear x0 x1 x2
          go_wp2_with fail
          go_ret
          exact ⟨ret_bool (by rw [HFB.out, HA.out, HA2.out]; rfl), hBw.trans (hb2.mono hBw.size)⟩

end Go.Proofs.YtijgcjeijcidfaaDoor
