import Derived.Test.YtijgcjeijcidfaaDoorVG
namespace Go.Proofs.YtijgcjeijcidfaaDoor
open Go.RowKit
set_option linter.unusedVariables false
set_option linter.unusedSimpArgs false

set_option maxHeartbeats 1000000 in
theorem szStmts_any (v : Value) (ns : List St) (left : Int) (w : World) (hl : 0 ≤ left ∧ left ≤ 1048576) (hw : wfSs ns) (hc : Stmts w v ns) :
    Calls Tryd.prog 35 #[v, .int .i64 left] w fun e w' => e = .returned (.int .i64 (szR left (szSs ns))) ∧ Below w.heap.size w w' := by
  obtain ⟨hw1, hw2⟩ := hw
  have HW : Hid (∀ n ∈ ns, wfSt n) := hw2
  obtain ⟨a, cap, rfl, hcl, hcm, hc⟩ := hc
  have HC : Hid (0 < ns.length → ∃ b off, a = some ⟨b, off, none⟩ ∧ StmtsC w b off ns) := hc
  have HZ : Hid (szSs ns = ns.length + sumBy szSt ns) := rfl
  clear hc hw2
  by_cases h0 : left < (ns.length : Int)
  · rw [szR_gt (show left < (szSs ns : Int) by rw [HZ.out]; omega)]
    go_enter Tryd.func35, Tryd.ntmps35
    go_wp2_with fail
    go_ret
    exact ⟨rfl, Below.refl _ _⟩
  go_enter Tryd.func35, Tryd.ntmps35
  go_wp2_with fail
  go_loopw [1, 5] (fun q i wr => ∃ k : Nat, k ≤ ns.length ∧ i = .int .i64 k ∧ q = .int .i64 (left - ns.length - (sumBy szSt (ns.take k) : Nat)) ∧ 0 ≤ left - ns.length - (sumBy szSt (ns.take k) : Nat) ∧ Below w.heap.size w wr) (fun _ i _ => ns.length - (intOf i).toNat)
  case atStart => exact ⟨0, Nat.zero_le _, rfl, by simp [sumBy], by simp [sumBy]; omega, Below.refl _ _⟩
  case round =>
    obtain ⟨k, hk, rfl, rfl, hq, hB⟩ := hrel
    by_cases hlt : k < ns.length
    · obtain ⟨b, off, rfl, hc⟩ := HC.out (by omega)
      obtain ⟨ve, vf, ⟨d0, d1, d2, d3, d4, d5⟩, he, hf⟩ := (hc.below hB) k hlt
      have HWS : Hid (wfSt ns[k]) := HW.out ns[k] (List.getElem_mem hlt)
      have HS : Hid _ := sumBy_step szSt ns k hlt
      have HLE : Hid _ := sumBy_le szSt ns (k + 1)
      clear hc
      generalize ns[k] = s at d0 d1 d2 d3 d4 d5 he hf HWS HS
      generalize hm : sumBy szSt (ns.take k) = m at hq HS ⊢
      clear hm
      have HNE : Hid (Nodes wr ve s.e) := he
      have HNF : Hid (Nodes wr vf s.f) := hf
      obtain ⟨a2, k2, rfl, -, -, -⟩ := he
      obtain ⟨a3, k3, rfl, -, -, -⟩ := hf
      go_wp2_with fail
      refine (szStmt_any s _ _ _ _ ⟨by omega, by omega⟩ HWS.out HNE.out HNF.out).mono ?_
      rintro e w2 ⟨rfl, hb2⟩
      have hB2 := hB.trans (hb2.mono hB.size)
      clear d0 d1 d2 d3 d4 d5
      by_cases h1 : left - ns.length - (m : Int) < (szSt s : Int)
      · have HR : Hid (szR left (szSs ns) = -1) := szR_gt (show left < (szSs ns : Int) by have := HS.out; have := HLE.out; rw [HZ.out]; omega)
        rw [szR_gt h1]
        go_wp2_with fail
        go_ret
        exact ⟨ret_int HR.out.symm, hB2⟩
      · rw [szR_le (show (szSt s : Int) ≤ left - ns.length - (m : Int) by omega)]
        generalize szSt s = z at HS h1 ⊢
        go_wp2_with fail
        go_roundw
        case rel => exact ⟨k + 1, by omega, by go_num, by rw [HS.out]; go_num, by rw [HS.out]; omega, hB2⟩
        case measure => simp [intOf]; omega
    · have hE : ns.take k = ns := List.take_of_length_le (by omega)
      rw [hE] at hq ⊢
      have HR : Hid (szR left (szSs ns) = left - ns.length - (sumBy szSt ns : Nat)) := by
        show _ = _
        rw [szR_le (show (szSs ns : Int) ≤ left by rw [HZ.out]; omega), HZ.out]; omega
      clear hE
      go_wp2_with fail
      go_ret
      exact ⟨ret_int HR.out.symm, hB⟩

set_option maxHeartbeats 1000000 in
theorem szFunc_any (s : Fu) (ve vf : Value) (left : Int) (w : World) (hl : 0 ≤ left ∧ left ≤ 1048576) (hw : wfFu s) (he : Strs w ve s.params) (hf : Stmts w vf s.body) :
    Calls Tryd.prog 21 #[.agg #[.string s.name, ve, vf], .int .i64 left] w fun e w' => e = .returned (.int .i64 (szR left (szFu s))) ∧ Below w.heap.size w w' := by
  obtain ⟨nI, es, fs⟩ := s
  have HWE : Hid (wfPs es) := hw.2.1
  have HWF : Hid (wfSs fs) := hw.2.2
  have hwn : nI.size ≤ 9223372036854775807 := hw.1
  simp only at he hf ⊢
  have HE : Hid (Strs w ve es) := he
  have HF : Hid (Stmts w vf fs) := hf
  obtain ⟨ae, ce, rfl, -, -, -⟩ := he
  obtain ⟨af, cf, rfl, -, -, -⟩ := hf
  have HZ : Hid (szFu ⟨nI, es, fs⟩ = nI.size + szPs es + szSs fs) := rfl
  generalize szFu ⟨nI, es, fs⟩ = zz at HZ ⊢
  clear hw
  by_cases h0 : left < (nI.size : Int)
  · rw [szR_gt (show left < (zz : Int) by rw [HZ.out]; omega)]
    go_enter Tryd.func21, Tryd.ntmps21
    go_wp2_with fail
    go_ret
    exact ⟨rfl, (Below.refl _ _).alloc (Nat.le_refl _) _⟩
  go_enter Tryd.func21, Tryd.ntmps21
  go_wp2_with fail
  refine (szStrs_any _ es _ _ ⟨by omega, by omega⟩ HWE.out (HE.out.below ((Below.refl _ _).alloc (Nat.le_refl _) _))).mono ?_
  rintro e w1 ⟨rfl, hb1⟩
  simp only [World.size_alloc] at hb1
  obtain ⟨x0, x1, x2⟩ := box3 hb1
  have hB1 := one_below hb1
  by_cases h1 : left - nI.size < (szPs es : Int)
  · have HR : Hid (szR left zz = -1) := szR_gt (show left < (zz : Int) by rw [HZ.out]; omega)
    rw [szR_gt h1]
    go_wp2_with fail
    go_ret
    exact ⟨ret_int HR.out.symm, hB1⟩
  rw [szR_le (show (szPs es : Int) ≤ left - nI.size by omega)]
  generalize szPs es = ze at HZ h1 ⊢
  go_wp2_with fail
  refine (szStmts_any _ fs _ _ ⟨by omega, by omega⟩ HWF.out (HF.out.below hB1)).mono ?_
  rintro e w2 ⟨rfl, hb2⟩
  have hB2 := hB1.trans (hb2.mono hB1.size)
  clear x0 x1 x2
  by_cases h2 : left - nI.size - ze < (szSs fs : Int)
  · have HR : Hid (szR left zz = -1) := szR_gt (show left < (zz : Int) by rw [HZ.out]; omega)
    rw [szR_gt h2]
    go_wp2_with fail
    go_ret
    exact ⟨ret_int HR.out.symm, hB2⟩
  have HR : Hid (left - nI.size - ze - (szSs fs : Nat) = szR left zz) := by
    show _ = _
    rw [szR_le (show (zz : Int) ≤ left by rw [HZ.out]; omega), HZ.out]; omega
  rw [szR_le (show (szSs fs : Int) ≤ left - nI.size - ze by omega)]
  generalize szSs fs = zf at HZ HR h2 ⊢
  go_wp2_with fail
  go_ret
  exact ⟨ret_int HR.out, hB2⟩

set_option maxHeartbeats 1000000 in
theorem szFuncs_any (v : Value) (ns : List Fu) (left : Int) (w : World) (hl : 0 ≤ left ∧ left ≤ 1048576) (hw : wfFs ns) (hc : Funcs w v ns) :
    Calls Tryd.prog 10 #[v, .int .i64 left] w fun e w' => e = .returned (.int .i64 (szR left (szFs ns))) ∧ Below w.heap.size w w' := by
  obtain ⟨hw1, hw2⟩ := hw
  have HW : Hid (∀ n ∈ ns, wfFu n) := hw2
  obtain ⟨a, cap, rfl, hcl, hcm, hc⟩ := hc
  have HC : Hid (0 < ns.length → ∃ b off, a = some ⟨b, off, none⟩ ∧ FuncsC w b off ns) := hc
  have HZ : Hid (szFs ns = ns.length + sumBy szFu ns) := rfl
  clear hc hw2
  by_cases h0 : left < (ns.length : Int)
  · rw [szR_gt (show left < (szFs ns : Int) by rw [HZ.out]; omega)]
    go_enter Tryd.func10, Tryd.ntmps10
    go_wp2_with fail
    go_ret
    exact ⟨rfl, Below.refl _ _⟩
  go_enter Tryd.func10, Tryd.ntmps10
  go_wp2_with fail
  go_loopw [1, 5] (fun q i wr => ∃ k : Nat, k ≤ ns.length ∧ i = .int .i64 k ∧ q = .int .i64 (left - ns.length - (sumBy szFu (ns.take k) : Nat)) ∧ 0 ≤ left - ns.length - (sumBy szFu (ns.take k) : Nat) ∧ Below w.heap.size w wr) (fun _ i _ => ns.length - (intOf i).toNat)
  case atStart => exact ⟨0, Nat.zero_le _, rfl, by simp [sumBy], by simp [sumBy]; omega, Below.refl _ _⟩
  case round =>
    obtain ⟨k, hk, rfl, rfl, hq, hB⟩ := hrel
    by_cases hlt : k < ns.length
    · obtain ⟨b, off, rfl, hc⟩ := HC.out (by omega)
      obtain ⟨vp, vb, ⟨d0, d1, d2⟩, hp, hb⟩ := (hc.below hB) k hlt
      have HWS : Hid (wfFu ns[k]) := HW.out ns[k] (List.getElem_mem hlt)
      have HS : Hid _ := sumBy_step szFu ns k hlt
      have HLE : Hid _ := sumBy_le szFu ns (k + 1)
      clear hc
      generalize ns[k] = s at d0 d1 d2 hp hb HWS HS
      generalize hm : sumBy szFu (ns.take k) = m at hq HS ⊢
      clear hm
      have HNE : Hid (Strs wr vp s.params) := hp
      have HNF : Hid (Stmts wr vb s.body) := hb
      obtain ⟨a2, k2, rfl, -, -, -⟩ := hp
      obtain ⟨a3, k3, rfl, -, -, -⟩ := hb
      go_wp2_with fail
      refine (szFunc_any s _ _ _ _ ⟨by omega, by omega⟩ HWS.out HNE.out HNF.out).mono ?_
      rintro e w2 ⟨rfl, hb2⟩
      have hB2 := hB.trans (hb2.mono hB.size)
      clear d0 d1 d2
      by_cases h1 : left - ns.length - (m : Int) < (szFu s : Int)
      · have HR : Hid (szR left (szFs ns) = -1) := szR_gt (show left < (szFs ns : Int) by have := HS.out; have := HLE.out; rw [HZ.out]; omega)
        rw [szR_gt h1]
        go_wp2_with fail
        go_ret
        exact ⟨ret_int HR.out.symm, hB2⟩
      · rw [szR_le (show (szFu s : Int) ≤ left - ns.length - (m : Int) by omega)]
        generalize szFu s = z at HS h1 ⊢
        go_wp2_with fail
        go_roundw
        case rel => exact ⟨k + 1, by omega, by go_num, by rw [HS.out]; go_num, by rw [HS.out]; omega, hB2⟩
        case measure => simp [intOf]; omega
    · have hE : ns.take k = ns := List.take_of_length_le (by omega)
      rw [hE] at hq ⊢
      have HR : Hid (szR left (szFs ns) = left - ns.length - (sumBy szFu ns : Nat)) := by
        show _ = _
        rw [szR_le (show (szFs ns : Int) ≤ left by rw [HZ.out]; omega), HZ.out]; omega
      clear hE
      go_wp2_with fail
      go_ret
      exact ⟨ret_int HR.out.symm, hB⟩

set_option maxHeartbeats 1000000 in
theorem szTree_any (t : Tr) (vg vf : Value) (left : Int) (w : World) (hl : 0 ≤ left ∧ left ≤ 1048576) (hw : wfT t) (hg : Globs w vg t.globals) (hf : Funcs w vf t.funcs) :
    Calls Tryd.prog 4 #[.agg #[vg, vf], .int .i64 left] w fun e w' => e = .returned (.int .i64 (szR left (szT t))) ∧ Below w.heap.size w w' := by
  obtain ⟨gs, fs⟩ := t
  have HWE : Hid (wfGs gs) := hw.1
  have HWF : Hid (wfFs fs) := hw.2
  simp only at hg hf ⊢
  have HE : Hid (Globs w vg gs) := hg
  have HF : Hid (Funcs w vf fs) := hf
  obtain ⟨ae, ce, rfl, -, -, -⟩ := hg
  obtain ⟨af, cf, rfl, -, -, -⟩ := hf
  have HZ : Hid (szT ⟨gs, fs⟩ = szGs gs + szFs fs) := rfl
  generalize szT ⟨gs, fs⟩ = zz at HZ ⊢
  clear hw
  go_enter Tryd.func4, Tryd.ntmps4
  go_wp2_with fail
  refine (szGlobs_any _ gs _ _ ⟨by omega, by omega⟩ HWE.out (HE.out.below ((Below.refl _ _).alloc (Nat.le_refl _) _))).mono ?_
  rintro e w1 ⟨rfl, hb1⟩
  simp only [World.size_alloc] at hb1
  obtain ⟨x0, x1⟩ := box2 hb1
  have hB1 := one_below hb1
  by_cases h1 : left < (szGs gs : Int)
  · have HR : Hid (szR left zz = -1) := szR_gt (show left < (zz : Int) by rw [HZ.out]; omega)
    rw [szR_gt h1]
    go_wp2_with fail
    go_ret
    exact ⟨ret_int HR.out.symm, hB1⟩
  rw [szR_le (show (szGs gs : Int) ≤ left by omega)]
  generalize szGs gs = ze at HZ h1 ⊢
  go_wp2_with fail
  refine (szFuncs_any _ fs _ _ ⟨by omega, by omega⟩ HWF.out (HF.out.below hB1)).mono ?_
  rintro e w2 ⟨rfl, hb2⟩
  have hB2 := hB1.trans (hb2.mono hB1.size)
  clear x0 x1
  by_cases h2 : left - ze < (szFs fs : Int)
  · have HR : Hid (szR left zz = -1) := szR_gt (show left < (zz : Int) by rw [HZ.out]; omega)
    rw [szR_gt h2]
    go_wp2_with fail
    go_ret
    exact ⟨ret_int HR.out.symm, hB2⟩
  have HR : Hid (left - ze - (szFs fs : Nat) = szR left zz) := by
    show _ = _
    rw [szR_le (show (zz : Int) ≤ left by rw [HZ.out]; omega), HZ.out]; omega
  rw [szR_le (show (szFs fs : Int) ≤ left - ze by omega)]
  generalize szFs fs = zf at HZ HR h2 ⊢
  go_wp2_with fail
  go_ret
  exact ⟨ret_int HR.out, hB2⟩

end Go.Proofs.YtijgcjeijcidfaaDoor
