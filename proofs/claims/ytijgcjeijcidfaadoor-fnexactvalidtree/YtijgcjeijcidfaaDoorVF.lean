import Derived.Test.YtijgcjeijcidfaaDoorVE
namespace Go.Proofs.YtijgcjeijcidfaaDoor
open Go.RowKit
set_option linter.unusedVariables false
set_option linter.unusedSimpArgs false

set_option maxHeartbeats 2000000 in
theorem gtree_any (t : Tr) (vg vf : Value) (w : World) (ht : smallT t) (hg : Globs w vg t.globals) (hf : Funcs w vf t.funcs) :
    Calls Tryd.prog 5 #[.agg #[vg, vf]] w fun e w' => e = .returned (.bool (treeB t)) ∧ Below w.heap.size w w' := by
  obtain ⟨gs, fs⟩ := t
  simp only at hg hf ⊢
  have HS : Hid (gs.length ≤ 1048576 ∧ fs.length ≤ 1048576 ∧ ∀ f ∈ fs, smallF f) := ht
  have hgl : gs.length ≤ 1048576 := HS.out.1
  have hfl : fs.length ≤ 1048576 := HS.out.2.1
  obtain ⟨ag, cg, rfl, -, -, hgc⟩ := hg
  obtain ⟨af, cf, rfl, -, -, hfc⟩ := hf
  have HGC : Hid (0 < gs.length → ∃ b off, ag = some ⟨b, off, none⟩ ∧ GlobsC w b off gs) := hgc
  have HFC : Hid (0 < fs.length → ∃ b off, af = some ⟨b, off, none⟩ ∧ FuncsC w b off fs) := hfc
  clear hgc hfc ht
  by_cases h5 : 50 < gs.length
  · go_enter Tryd.func5, Tryd.ntmps5
    go_wp2_with fail
    go_ret
    exact ⟨ret_bool (by simp only [treeB, decide_eq_false (show ¬ gs.length ≤ 50 by omega), Bool.false_and]), (Below.refl _ _).alloc (Nat.le_refl _) _⟩
  by_cases h6 : 50 < fs.length
  · go_enter Tryd.func5, Tryd.ntmps5
    go_wp2_with fail
    go_ret
    exact ⟨ret_bool (by simp only [treeB, decide_eq_false (show ¬ fs.length ≤ 50 by omega), Bool.false_and, Bool.and_false]), (Below.refl _ _).alloc (Nat.le_refl _) _⟩
  have HTB : Hid (treeB ⟨gs, fs⟩ = (gs.all globB && fs.all funcB)) := by
    show _ = _
    simp only [treeB, decide_eq_true (show gs.length ≤ 50 by omega), decide_eq_true (show fs.length ≤ 50 by omega), Bool.true_and]
  go_enter Tryd.func5, Tryd.ntmps5
  go_wp2_with fail
  go_loopw [3] (fun i wr => ∃ k : Nat, k ≤ gs.length ∧ i = .int .i64 k ∧ (∀ g ∈ gs.take k, globB g = true) ∧ Below (w.heap.size + 1) (w.alloc (.cells #[.slice ag gs.length cg, .slice af fs.length cf] 31)) wr) (fun i _ => gs.length - (intOf i).toNat)
  case atStart => exact ⟨0, Nat.zero_le _, rfl, by simp, Below.refl _ _⟩
  case round =>
    obtain ⟨k, hk, rfl, hg, hB⟩ := hrel
    have HG : Hid (∀ g ∈ gs.take k, globB g = true) := hg
    clear hg
    have hBw := one_below hB
    by_cases hlt : k < gs.length
    · obtain ⟨b, off, rfl, hc⟩ := HGC.out (by omega)
      obtain ⟨d0, d1⟩ := (hc.below hBw) k hlt
      have HE : Hid (gs.take (k + 1) = gs.take k ++ [gs[k]]) := take_succ gs k hlt
      have HX : Hid (globB gs[k] = false → gs.all globB = false) := allG_bad hlt
      clear hc
      generalize gs[k] = g at d0 d1 HE HX
      obtain ⟨x0, x1⟩ := box2 hB
      obtain ⟨s, z⟩ := g
      simp only at d0 d1
      cases hv : nameB s
      · have hv2 : globB ⟨s, z⟩ = false := by simp only [globB, hv, Bool.false_and]
        have HV : Hid (globB ⟨s, z⟩ = false) := hv2
        clear hv2
        go_wp2_with (go_at_call 11; refine (name_any _ _).mono ?_; rintro e w' ⟨rfl, rfl⟩; rw [hv])
        go_ret
        exact ⟨ret_bool (by rw [HTB.out, HX.out HV.out]; rfl), hBw⟩
      cases hz : decide (0 ≤ z ∧ z ≤ 4000)
      · have hv2 : globB ⟨s, z⟩ = false := by simp only [globB, hv, hz, Bool.and_false]
        have HV : Hid (globB ⟨s, z⟩ = false) := hv2
        have HZ : Hid (decide (0 ≤ z ∧ z ≤ 4000) = false) := hz
        clear hv2 hz
        go_wp2_with (first | (go_at_call 11; refine (name_any _ _).mono ?_; rintro e w' ⟨rfl, rfl⟩; rw [hv]) | (go_at_call 12; refine (in_any _ _ _ _).mono ?_; rintro e w' ⟨rfl, rfl⟩; rw [HZ.out]))
        go_ret
        exact ⟨ret_bool (by rw [HTB.out, HX.out HV.out]; rfl), hBw⟩
      · have HV : Hid (globB ⟨s, z⟩ = true) := by
          show _ = _
          simp only [globB, hv, hz, Bool.and_self]
        have HZ : Hid (decide (0 ≤ z ∧ z ≤ 4000) = true) := hz
        clear hz
        go_wp2_with (first | (go_at_call 11; refine (name_any _ _).mono ?_; rintro e w' ⟨rfl, rfl⟩; rw [hv]) | (go_at_call 12; refine (in_any _ _ _ _).mono ?_; rintro e w' ⟨rfl, rfl⟩; rw [HZ.out]))
        go_roundw
        case rel =>
          refine ⟨k + 1, by omega, by go_num, fun m hm => ?_, hB⟩
          rw [HE.out] at hm
          rcases List.mem_append.1 hm with hm | hm
          · exact HG.out m hm
          · rw [List.mem_singleton.1 hm]; exact HV.out
        case measure => simp [intOf]; omega
    · have HA : Hid (gs.all globB = true) := by
        show _ = _
        rw [List.all_eq_true]
        have := HG.out
        rw [List.take_of_length_le (by omega)] at this
        exact this
      clear HG HGC
      obtain ⟨x0, x1⟩ := box2 hB
      go_wp2_with fail
      clear x0 x1
      go_loopw [4] (fun i wr => ∃ k : Nat, k ≤ fs.length ∧ i = .int .i64 k ∧ (∀ f ∈ fs.take k, funcB f = true) ∧ Below (w.heap.size + 1) (w.alloc (.cells #[.slice ag gs.length cg, .slice af fs.length cf] 31)) wr) (fun i _ => fs.length - (intOf i).toNat)
      case atStart => exact ⟨0, Nat.zero_le _, rfl, by simp, hB⟩
      case round =>
        clear hB hBw hlt
        obtain ⟨k, hk, rfl, hg, hB⟩ := hrel
        have HG : Hid (∀ f ∈ fs.take k, funcB f = true) := hg
        clear hg
        have hBw := one_below hB
        by_cases hlt : k < fs.length
        · obtain ⟨b, off, rfl, hc⟩ := HFC.out (by omega)
          obtain ⟨vp, vb, ⟨d0, d1, d2⟩, hp, hs⟩ := (hc.below hBw) k hlt
          have HE : Hid (fs.take (k + 1) = fs.take k ++ [fs[k]]) := take_succ fs k hlt
          have HX : Hid (funcB fs[k] = false → fs.all funcB = false) := allF_bad hlt
          have HSM : Hid (smallF fs[k]) := HS.out.2.2 fs[k] (List.getElem_mem hlt)
          clear hc
          generalize fs[k] = f at d0 d1 d2 HE HX HSM hp hs
          have HP : Hid (Strs wr vp f.params) := hp
          have HB : Hid (Stmts wr vb f.body) := hs
          obtain ⟨a2, k2, rfl, -, -, -⟩ := hp
          obtain ⟨a3, k3, rfl, -, -, -⟩ := hs
          obtain ⟨x0, x1⟩ := box2 hB
          go_wp2_with fail
          refine (gfunc_any f _ _ _ HSM.out HP.out HB.out).mono ?_
          rintro e w2 ⟨rfl, hb2⟩
          have hBx2 := hb2
          clear x0 x1
          have hB2 := hB.trans (hBx2.mono (by have := hB.size; simp at this; omega))
          clear d0 d1 d2 hb2
          cases hv : funcB f
          · go_wp2_with fail
            go_ret
            exact ⟨ret_bool (by rw [HTB.out, HX.out hv]; simp), one_below hB2⟩
          · go_wp2_with fail
            go_roundw
            case rel =>
              refine ⟨k + 1, by omega, by go_num, fun m hm => ?_, hB2⟩
              rw [HE.out] at hm
              rcases List.mem_append.1 hm with hm | hm
              · exact HG.out m hm
              · rw [List.mem_singleton.1 hm]; exact hv
            case measure => simp [intOf]; omega
        · have HA2 : Hid (fs.all funcB = true) := by
            show _ = _
            rw [List.all_eq_true]
            have := HG.out
            rw [List.take_of_length_le (by omega)] at this
            exact this
          obtain ⟨x0, x1⟩ := box2 hB
          go_wp2_with fail
          go_ret
          exact ⟨ret_bool (by rw [HTB.out, HA.out, HA2.out]; rfl), hBw⟩

end Go.Proofs.YtijgcjeijcidfaaDoor
