import Derived.Test.YtijgcjeijcidfaaDoorVF
import Derived.Test.YtijgcjeijcidfaaDoorW4
namespace Go.Proofs.YtijgcjeijcidfaaDoor
open Go.RowKit
set_option linter.unusedVariables false
set_option linter.unusedSimpArgs false

set_option maxHeartbeats 400000 in
theorem szNode_any (n : Nd) (left : Int) (w : World) (hl : 0 ≤ left ∧ left ≤ 1048576) (hw : n.name.size ≤ 9223372036854775807) :
    Calls Tryd.prog 62 #[.agg #[.int .i64 n.kind, .int .i64 n.val, .string n.name], .int .i64 left] w fun e w' => e = .returned (.int .i64 (szR left (szN n))) ∧ Below w.heap.size w w' := by
  obtain ⟨k, v, s⟩ := n
  simp only at hw ⊢
  by_cases h : left < (s.size : Int)
  · rw [show szR left (szN ⟨k, v, s⟩) = -1 from szR_gt h]
    go_enter Tryd.func62, Tryd.ntmps62
    go_wp2_with fail
    go_ret
    exact ⟨rfl, (Below.refl _ _).alloc (Nat.le_refl _) _⟩
  · rw [show szR left (szN ⟨k, v, s⟩) = left - s.size from szR_le (by simp only [szN]; omega)]
    go_enter Tryd.func62, Tryd.ntmps62
    go_wp2_with fail
    go_ret
    exact ⟨rfl, (Below.refl _ _).alloc (Nat.le_refl _) _⟩

set_option maxHeartbeats 400000 in
theorem szGlob_any (g : Gl) (left : Int) (w : World) (hl : 0 ≤ left ∧ left ≤ 1048576) (hw : g.name.size ≤ 9223372036854775807) :
    Calls Tryd.prog 20 #[.agg #[.string g.name, .int .i64 g.size], .int .i64 left] w fun e w' => e = .returned (.int .i64 (szR left (szG g))) ∧ Below w.heap.size w w' := by
  obtain ⟨s, z⟩ := g
  simp only at hw ⊢
  by_cases h : left < (s.size : Int)
  · rw [show szR left (szG ⟨s, z⟩) = -1 from szR_gt h]
    go_enter Tryd.func20, Tryd.ntmps20
    go_wp2_with fail
    go_ret
    exact ⟨rfl, (Below.refl _ _).alloc (Nat.le_refl _) _⟩
  · rw [show szR left (szG ⟨s, z⟩) = left - s.size from szR_le (by simp only [szG]; omega)]
    go_enter Tryd.func20, Tryd.ntmps20
    go_wp2_with fail
    go_ret
    exact ⟨rfl, (Below.refl _ _).alloc (Nat.le_refl _) _⟩

set_option maxHeartbeats 1000000 in
theorem szStrs_any (v : Value) (ns : List ByteArray) (left : Int) (w : World) (hl : 0 ≤ left ∧ left ≤ 1048576) (hw : wfPs ns) (hc : Strs w v ns) :
    Calls Tryd.prog 34 #[v, .int .i64 left] w fun e w' => e = .returned (.int .i64 (szR left (szPs ns))) ∧ Below w.heap.size w w' := by
  obtain ⟨hw1, hw2⟩ := hw
  have HW : Hid (∀ n ∈ ns, n.size ≤ 9223372036854775807) := hw2
  obtain ⟨a, cap, rfl, hcl, hcm, hc⟩ := hc
  have HC : Hid (0 < ns.length → ∃ b off, a = some ⟨b, off, none⟩ ∧ StrsC w b off ns) := hc
  have HZ : Hid (szPs ns = ns.length + sumBy ByteArray.size ns) := rfl
  clear hc hw2
  by_cases h0 : left < (ns.length : Int)
  · rw [szR_gt (show left < (szPs ns : Int) by rw [HZ.out]; omega)]
    go_enter Tryd.func34, Tryd.ntmps34
    go_wp2_with fail
    go_ret
    exact ⟨rfl, Below.refl _ _⟩
  go_enter Tryd.func34, Tryd.ntmps34
  go_wp2_with fail
  go_loopw [1, 5] (fun q i wr => ∃ k : Nat, k ≤ ns.length ∧ i = .int .i64 k ∧ q = .int .i64 (left - ns.length - (sumBy ByteArray.size (ns.take k) : Nat)) ∧ 0 ≤ left - ns.length - (sumBy ByteArray.size (ns.take k) : Nat) ∧ wr = w) (fun _ i _ => ns.length - (intOf i).toNat)
  case atStart => exact ⟨0, Nat.zero_le _, rfl, by simp [sumBy], by simp [sumBy]; omega, rfl⟩
  case round =>
    obtain ⟨k, hk, rfl, rfl, hq, rfl⟩ := hrel
    by_cases hlt : k < ns.length
    · obtain ⟨b, off, rfl, hc⟩ := HC.out (by omega)
      have d0 := hc k hlt
      have hws := HW.out ns[k] (List.getElem_mem hlt)
      have HS : Hid _ := sumBy_step ByteArray.size ns k hlt
      have HLE : Hid _ := sumBy_le ByteArray.size ns (k + 1)
      clear hc
      generalize ns[k] = s at d0 hws HS
      generalize hm : sumBy ByteArray.size (ns.take k) = m at hq HS ⊢
      clear hm
      by_cases h1 : left - ns.length - (m : Int) < (s.size : Int)
      · have HR : Hid (szR left (szPs ns) = -1) := szR_gt (show left < (szPs ns : Int) by have := HS.out; have := HLE.out; rw [HZ.out]; omega)
        go_wp2_with fail
        go_ret
        exact ⟨ret_int HR.out.symm, Below.refl _ _⟩
      · go_wp2_with fail
        go_roundw
        case rel => exact ⟨k + 1, by omega, by go_num, by rw [HS.out]; go_num, by rw [HS.out]; omega, by first | trivial | rfl⟩
        case measure => simp [intOf]; omega
    · have hE : ns.take k = ns := List.take_of_length_le (by omega)
      rw [hE] at hq ⊢
      have HR : Hid (szR left (szPs ns) = left - ns.length - (sumBy ByteArray.size ns : Nat)) := by
        show _ = _
        rw [szR_le (show (szPs ns : Int) ≤ left by rw [HZ.out]; omega), HZ.out]; omega
      clear hE
      go_wp2_with fail
      go_ret
      exact ⟨ret_int HR.out.symm, Below.refl _ _⟩

set_option maxHeartbeats 1000000 in
theorem szNodes_any (v : Value) (ns : List Nd) (left : Int) (w : World) (hl : 0 ≤ left ∧ left ≤ 1048576) (hw : wfNs ns) (hc : Nodes w v ns) :
    Calls Tryd.prog 57 #[v, .int .i64 left] w fun e w' => e = .returned (.int .i64 (szR left (szNs ns))) ∧ Below w.heap.size w w' := by
  obtain ⟨hw1, hw2⟩ := hw
  have HW : Hid (∀ n ∈ ns, n.name.size ≤ 9223372036854775807) := hw2
  obtain ⟨a, cap, rfl, hcl, hcm, hc⟩ := hc
  have HC : Hid (0 < ns.length → ∃ b off, a = some ⟨b, off, none⟩ ∧ NodesC w b off ns) := hc
  have HZ : Hid (szNs ns = ns.length + sumBy szN ns) := rfl
  clear hc hw2
  by_cases h0 : left < (ns.length : Int)
  · rw [szR_gt (show left < (szNs ns : Int) by rw [HZ.out]; omega)]
    go_enter Tryd.func57, Tryd.ntmps57
    go_wp2_with fail
    go_ret
    exact ⟨rfl, Below.refl _ _⟩
  go_enter Tryd.func57, Tryd.ntmps57
  go_wp2_with fail
  go_loopw [1, 5] (fun q i wr => ∃ k : Nat, k ≤ ns.length ∧ i = .int .i64 k ∧ q = .int .i64 (left - ns.length - (sumBy szN (ns.take k) : Nat)) ∧ 0 ≤ left - ns.length - (sumBy szN (ns.take k) : Nat) ∧ Below w.heap.size w wr) (fun _ i _ => ns.length - (intOf i).toNat)
  case atStart => exact ⟨0, Nat.zero_le _, rfl, by simp [sumBy], by simp [sumBy]; omega, Below.refl _ _⟩
  case round =>
    obtain ⟨k, hk, rfl, rfl, hq, hB⟩ := hrel
    by_cases hlt : k < ns.length
    · obtain ⟨b, off, rfl, hc⟩ := HC.out (by omega)
      obtain ⟨d0, d1, d2⟩ := (hc.below hB) k hlt
      have HWS : Hid (ns[k].name.size ≤ 9223372036854775807) := HW.out ns[k] (List.getElem_mem hlt)
      have HS : Hid _ := sumBy_step szN ns k hlt
      have HLE : Hid _ := sumBy_le szN ns (k + 1)
      clear hc
      generalize ns[k] = s at d0 d1 d2 HWS HS
      generalize hm : sumBy szN (ns.take k) = m at hq HS ⊢
      clear hm
      go_wp2_with fail
      refine (szNode_any s _ _ ⟨by omega, by omega⟩ HWS.out).mono ?_
      rintro e w2 ⟨rfl, hb2⟩
      have hB2 := hB.trans (hb2.mono hB.size)
      clear d0 d1 d2
      by_cases h1 : left - ns.length - (m : Int) < (szN s : Int)
      · have HR : Hid (szR left (szNs ns) = -1) := szR_gt (show left < (szNs ns : Int) by have := HS.out; have := HLE.out; rw [HZ.out]; omega)
        rw [szR_gt h1]
        go_wp2_with fail
        go_ret
        exact ⟨ret_int HR.out.symm, hB2⟩
      · rw [szR_le (show (szN s : Int) ≤ left - ns.length - (m : Int) by omega)]
        generalize szN s = z at HS h1 ⊢
        go_wp2_with fail
        go_roundw
        case rel => exact ⟨k + 1, by omega, by go_num, by rw [HS.out]; go_num, by rw [HS.out]; omega, hB2⟩
        case measure => simp [intOf]; omega
    · have hE : ns.take k = ns := List.take_of_length_le (by omega)
      rw [hE] at hq ⊢
      have HR : Hid (szR left (szNs ns) = left - ns.length - (sumBy szN ns : Nat)) := by
        show _ = _
        rw [szR_le (show (szNs ns : Int) ≤ left by rw [HZ.out]; omega), HZ.out]; omega
      clear hE
      go_wp2_with fail
      go_ret
      exact ⟨ret_int HR.out.symm, hB⟩

set_option maxHeartbeats 1000000 in
theorem szGlobs_any (v : Value) (ns : List Gl) (left : Int) (w : World) (hl : 0 ≤ left ∧ left ≤ 1048576) (hw : wfGs ns) (hc : Globs w v ns) :
    Calls Tryd.prog 9 #[v, .int .i64 left] w fun e w' => e = .returned (.int .i64 (szR left (szGs ns))) ∧ Below w.heap.size w w' := by
  obtain ⟨hw1, hw2⟩ := hw
  have HW : Hid (∀ n ∈ ns, n.name.size ≤ 9223372036854775807) := hw2
  obtain ⟨a, cap, rfl, hcl, hcm, hc⟩ := hc
  have HC : Hid (0 < ns.length → ∃ b off, a = some ⟨b, off, none⟩ ∧ GlobsC w b off ns) := hc
  have HZ : Hid (szGs ns = ns.length + sumBy szG ns) := rfl
  clear hc hw2
  by_cases h0 : left < (ns.length : Int)
  · rw [szR_gt (show left < (szGs ns : Int) by rw [HZ.out]; omega)]
    go_enter Tryd.func9, Tryd.ntmps9
    go_wp2_with fail
    go_ret
    exact ⟨rfl, Below.refl _ _⟩
  go_enter Tryd.func9, Tryd.ntmps9
  go_wp2_with fail
  go_loopw [1, 5] (fun q i wr => ∃ k : Nat, k ≤ ns.length ∧ i = .int .i64 k ∧ q = .int .i64 (left - ns.length - (sumBy szG (ns.take k) : Nat)) ∧ 0 ≤ left - ns.length - (sumBy szG (ns.take k) : Nat) ∧ Below w.heap.size w wr) (fun _ i _ => ns.length - (intOf i).toNat)
  case atStart => exact ⟨0, Nat.zero_le _, rfl, by simp [sumBy], by simp [sumBy]; omega, Below.refl _ _⟩
  case round =>
    obtain ⟨k, hk, rfl, rfl, hq, hB⟩ := hrel
    by_cases hlt : k < ns.length
    · obtain ⟨b, off, rfl, hc⟩ := HC.out (by omega)
      obtain ⟨d0, d1⟩ := (hc.below hB) k hlt
      have HWS : Hid (ns[k].name.size ≤ 9223372036854775807) := HW.out ns[k] (List.getElem_mem hlt)
      have HS : Hid _ := sumBy_step szG ns k hlt
      have HLE : Hid _ := sumBy_le szG ns (k + 1)
      clear hc
      generalize ns[k] = s at d0 d1 HWS HS
      generalize hm : sumBy szG (ns.take k) = m at hq HS ⊢
      clear hm
      go_wp2_with fail
      refine (szGlob_any s _ _ ⟨by omega, by omega⟩ HWS.out).mono ?_
      rintro e w2 ⟨rfl, hb2⟩
      have hB2 := hB.trans (hb2.mono hB.size)
      clear d0 d1
      by_cases h1 : left - ns.length - (m : Int) < (szG s : Int)
      · have HR : Hid (szR left (szGs ns) = -1) := szR_gt (show left < (szGs ns : Int) by have := HS.out; have := HLE.out; rw [HZ.out]; omega)
        rw [szR_gt h1]
        go_wp2_with fail
        go_ret
        exact ⟨ret_int HR.out.symm, hB2⟩
      · rw [szR_le (show (szG s : Int) ≤ left - ns.length - (m : Int) by omega)]
        generalize szG s = z at HS h1 ⊢
        go_wp2_with fail
        go_roundw
        case rel => exact ⟨k + 1, by omega, by go_num, by rw [HS.out]; go_num, by rw [HS.out]; omega, hB2⟩
        case measure => simp [intOf]; omega
    · have hE : ns.take k = ns := List.take_of_length_le (by omega)
      rw [hE] at hq ⊢
      have HR : Hid (szR left (szGs ns) = left - ns.length - (sumBy szG ns : Nat)) := by
        show _ = _
        rw [szR_le (show (szGs ns : Int) ≤ left by rw [HZ.out]; omega), HZ.out]; omega
      clear hE
      go_wp2_with fail
      go_ret
      exact ⟨ret_int HR.out.symm, hB⟩

set_option maxHeartbeats 1000000 in
theorem szStmt_any (s : St) (ve vf : Value) (left : Int) (w : World) (hl : 0 ≤ left ∧ left ≤ 1048576) (hw : wfSt s) (he : Nodes w ve s.e) (hf : Nodes w vf s.f) :
    Calls Tryd.prog 46 #[.agg #[.int .i64 s.kind, .string s.name, ve, vf, .int .i64 s.thn, .int .i64 s.els], .int .i64 left] w fun e w' => e = .returned (.int .i64 (szR left (szSt s))) ∧ Below w.heap.size w w' := by
  obtain ⟨kI, nI, es, fs, tI, lI⟩ := s
  have HWE : Hid (wfNs es) := hw.2.1
  have HWF : Hid (wfNs fs) := hw.2.2
  have hwn : nI.size ≤ 9223372036854775807 := hw.1
  simp only at he hf ⊢
  have HE : Hid (Nodes w ve es) := he
  have HF : Hid (Nodes w vf fs) := hf
  obtain ⟨ae, ce, rfl, -, -, -⟩ := he
  obtain ⟨af, cf, rfl, -, -, -⟩ := hf
  have HZ : Hid (szSt ⟨kI, nI, es, fs, tI, lI⟩ = nI.size + szNs es + szNs fs) := rfl
  generalize szSt ⟨kI, nI, es, fs, tI, lI⟩ = zz at HZ ⊢
  clear hw
  by_cases h0 : left < (nI.size : Int)
  · rw [szR_gt (show left < (zz : Int) by rw [HZ.out]; omega)]
    go_enter Tryd.func46, Tryd.ntmps46
    go_wp2_with fail
    go_ret
    exact ⟨rfl, (Below.refl _ _).alloc (Nat.le_refl _) _⟩
  go_enter Tryd.func46, Tryd.ntmps46
  go_wp2_with fail
  refine (szNodes_any _ es _ _ ⟨by omega, by omega⟩ HWE.out (HE.out.below ((Below.refl _ _).alloc (Nat.le_refl _) _))).mono ?_
  rintro e w1 ⟨rfl, hb1⟩
  simp only [World.size_alloc] at hb1
  obtain ⟨x0, x1, x2, x3, x4, x5⟩ := box6 hb1
  have hB1 := one_below hb1
  by_cases h1 : left - nI.size < (szNs es : Int)
  · have HR : Hid (szR left zz = -1) := szR_gt (show left < (zz : Int) by rw [HZ.out]; omega)
    rw [szR_gt h1]
    go_wp2_with fail
    go_ret
    exact ⟨ret_int HR.out.symm, hB1⟩
  rw [szR_le (show (szNs es : Int) ≤ left - nI.size by omega)]
  generalize szNs es = ze at HZ h1 ⊢
  go_wp2_with fail
  refine (szNodes_any _ fs _ _ ⟨by omega, by omega⟩ HWF.out (HF.out.below hB1)).mono ?_
  rintro e w2 ⟨rfl, hb2⟩
  have hB2 := hB1.trans (hb2.mono hB1.size)
  clear x0 x1 x2 x3 x4 x5
  by_cases h2 : left - nI.size - ze < (szNs fs : Int)
  · have HR : Hid (szR left zz = -1) := szR_gt (show left < (zz : Int) by rw [HZ.out]; omega)
    rw [szR_gt h2]
    go_wp2_with fail
    go_ret
    exact ⟨ret_int HR.out.symm, hB2⟩
  have HR : Hid (left - nI.size - ze - (szNs fs : Nat) = szR left zz) := by
    show _ = _
    rw [szR_le (show (zz : Int) ≤ left by rw [HZ.out]; omega), HZ.out]; omega
  rw [szR_le (show (szNs fs : Int) ≤ left - nI.size - ze by omega)]
  generalize szNs fs = zf at HZ HR h2 ⊢
  go_wp2_with fail
  go_ret
  exact ⟨ret_int HR.out, hB2⟩

end Go.Proofs.YtijgcjeijcidfaaDoor
