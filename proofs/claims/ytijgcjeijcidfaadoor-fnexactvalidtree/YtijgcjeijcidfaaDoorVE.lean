import Derived.Test.YtijgcjeijcidfaaDoorVD
namespace Go.Proofs.YtijgcjeijcidfaaDoor
open Go.RowKit
set_option linter.unusedVariables false
set_option linter.unusedSimpArgs false

def GlobsC (w : World) (b off : Nat) (gs : List Gl) : Prop := ∀ j (h : j < gs.length), w.cell? ⟨b, off + j * 2, none⟩ = some (.string gs[j].name) ∧ w.cell? ⟨b, off + j * 2 + 1, none⟩ = some (.int .i64 gs[j].size)
theorem GlobsC.below {w w' : World} {b off : Nat} {gs : List Gl} (h : GlobsC w b off gs) (hb : Below w.heap.size w w') : GlobsC w' b off gs := by
  intro j hj
  obtain ⟨c0, c1⟩ := h j hj
  have hlt := World.block_lt_of_cell? _ _ c0
  exact ⟨(hb.cell (p := ⟨b, off + j * 2, none⟩) hlt).trans c0, (hb.cell (p := ⟨b, off + j * 2 + 1, none⟩) hlt).trans c1⟩
def Globs (w : World) (v : Value) (gs : List Gl) : Prop := ∃ a cap, v = .slice a gs.length cap ∧ gs.length ≤ cap ∧ cap ≤ 9223372036854775807 ∧ (0 < gs.length → ∃ b off, a = some ⟨b, off, none⟩ ∧ GlobsC w b off gs)
theorem Globs.below {w w' : World} {v : Value} {gs : List Gl} (h : Globs w v gs) (hb : Below w.heap.size w w') : Globs w' v gs := by
  obtain ⟨a, cap, rfl, hl, hm, h⟩ := h
  refine ⟨a, cap, rfl, hl, hm, fun h0 => ?_⟩
  obtain ⟨b, off, rfl, hc⟩ := h h0
  exact ⟨b, off, rfl, hc.below hb⟩
def FuncsC (w : World) (b off : Nat) (fs : List Fu) : Prop := ∀ j (h : j < fs.length), ∃ vp vb, (w.cell? ⟨b, off + j * 3, none⟩ = some (.string fs[j].name) ∧ w.cell? ⟨b, off + j * 3 + 1, none⟩ = some vp ∧ w.cell? ⟨b, off + j * 3 + 2, none⟩ = some vb) ∧ Strs w vp fs[j].params ∧ Stmts w vb fs[j].body
theorem FuncsC.below {w w' : World} {b off : Nat} {fs : List Fu} (h : FuncsC w b off fs) (hb : Below w.heap.size w w') : FuncsC w' b off fs := by
  intro j hj
  obtain ⟨vp, vb, ⟨c0, c1, c2⟩, hp, hs⟩ := h j hj
  have hlt := World.block_lt_of_cell? _ _ c0
  exact ⟨vp, vb, ⟨(hb.cell (p := ⟨b, off + j * 3, none⟩) hlt).trans c0, (hb.cell (p := ⟨b, off + j * 3 + 1, none⟩) hlt).trans c1, (hb.cell (p := ⟨b, off + j * 3 + 2, none⟩) hlt).trans c2⟩, hp.below hb, hs.below hb⟩
def Funcs (w : World) (v : Value) (fs : List Fu) : Prop := ∃ a cap, v = .slice a fs.length cap ∧ fs.length ≤ cap ∧ cap ≤ 9223372036854775807 ∧ (0 < fs.length → ∃ b off, a = some ⟨b, off, none⟩ ∧ FuncsC w b off fs)
theorem Funcs.below {w w' : World} {v : Value} {fs : List Fu} (h : Funcs w v fs) (hb : Below w.heap.size w w') : Funcs w' v fs := by
  obtain ⟨a, cap, rfl, hl, hm, h⟩ := h
  refine ⟨a, cap, rfl, hl, hm, fun h0 => ?_⟩
  obtain ⟨b, off, rfl, hc⟩ := h h0
  exact ⟨b, off, rfl, hc.below hb⟩
theorem box2 {w w' : World} {t : TypeId} {x y : Value} (h : Below (w.heap.size + 1) (w.alloc (.cells #[x, y] t)) w') :
    w'.cell? ⟨w.heap.size, 0, none⟩ = some x ∧ w'.cell? ⟨w.heap.size, 1, none⟩ = some y := by
  refine ⟨?_, ?_⟩ <;> (rw [h.cell (by simp)]; simp)

set_option maxHeartbeats 1000000 in
theorem vglob_any (g : Gl) (w : World) : Calls Tryd.prog 16 #[.agg #[.string g.name, .int .i64 g.size]] w fun e w' => e = .returned (.bool (globB g)) ∧ Below w.heap.size w w' := by
  obtain ⟨s, z⟩ := g
  simp only
  go_enter Tryd.func16, Tryd.ntmps16
  go_wp2_with fail
  refine (vname_any _ _).mono ?_
  rintro e w1 ⟨rfl, hb1⟩
  simp only [World.size_alloc] at hb1
  have hB1 := one_below hb1
  obtain ⟨x0, x1⟩ := box2 hb1
  cases hn : nameB s
  · go_wp2_with fail
    go_ret
    exact ⟨ret_bool (by simp only [globB, hn, Bool.false_and]), hB1⟩
  by_cases h0 : z < 0
  · go_wp2_with fail
    go_ret
    exact ⟨ret_bool (by simp only [globB, hn]; simp; omega), hB1⟩
  · go_wp2_with fail
    go_ret
    refine ⟨ret_bool ?_, hB1⟩
    simp only [globB, hn, Bool.true_and]
    apply Bool.eq_iff_iff.2
    simp <;> omega

set_option maxHeartbeats 2000000 in
theorem vtree_any (t : Tr) (vg vf : Value) (w : World) (hT : Tab w) (ht : smallT t) (hg : Globs w vg t.globals) (hf : Funcs w vf t.funcs) :
    Calls Tryd.prog 7 #[.agg #[vg, vf]] w fun e w' => e = .returned (.bool (treeB t)) ∧ Below w.heap.size w w' := by
  obtain ⟨gs, fs⟩ := t
  simp only at hg hf ⊢
  have HT : Hid (Tab w) := hT
  have HS : Hid (gs.length ≤ 1048576 ∧ fs.length ≤ 1048576 ∧ ∀ f ∈ fs, smallF f) := ht
  have hgl : gs.length ≤ 1048576 := HS.out.1
  have hfl : fs.length ≤ 1048576 := HS.out.2.1
  obtain ⟨ag, cg, rfl, -, -, hgc⟩ := hg
  obtain ⟨af, cf, rfl, -, -, hfc⟩ := hf
  have HGC : Hid (0 < gs.length → ∃ b off, ag = some ⟨b, off, none⟩ ∧ GlobsC w b off gs) := hgc
  have HFC : Hid (0 < fs.length → ∃ b off, af = some ⟨b, off, none⟩ ∧ FuncsC w b off fs) := hfc
  clear hgc hfc ht hT
  by_cases h5 : 50 < gs.length
  · go_enter Tryd.func7, Tryd.ntmps7
    go_wp2_with fail
    go_ret
    exact ⟨ret_bool (by simp only [treeB, decide_eq_false (show ¬ gs.length ≤ 50 by omega), Bool.false_and]), (Below.refl _ _).alloc (Nat.le_refl _) _⟩
  by_cases h6 : 50 < fs.length
  · go_enter Tryd.func7, Tryd.ntmps7
    go_wp2_with fail
    go_ret
    exact ⟨ret_bool (by simp only [treeB, decide_eq_false (show ¬ fs.length ≤ 50 by omega), Bool.false_and, Bool.and_false]), (Below.refl _ _).alloc (Nat.le_refl _) _⟩
  have HTB : Hid (treeB ⟨gs, fs⟩ = (gs.all globB && fs.all funcB)) := by
    show _ = _
    simp only [treeB, decide_eq_true (show gs.length ≤ 50 by omega), decide_eq_true (show fs.length ≤ 50 by omega), Bool.true_and]
  go_enter Tryd.func7, Tryd.ntmps7
  go_wp2_with fail
  go_loopw [20] (fun i wr => ∃ k : Nat, k ≤ gs.length ∧ i = .int .i64 k ∧ (∀ g ∈ gs.take k, globB g = true) ∧ Below (w.heap.size + 1) (w.alloc (.cells #[.slice ag gs.length cg, .slice af fs.length cf] 31)) wr) (fun i _ => gs.length - (intOf i).toNat)
  case atStart => exact ⟨0, Nat.zero_le _, rfl, by simp, Below.refl _ _⟩
  case round =>
    obtain ⟨k, hk, rfl, hg, hB⟩ := hrel
    have HG : Hid (∀ g ∈ gs.take k, globB g = true) := hg
    clear hg
    have hBw := one_below hB
    by_cases hlt : k < gs.length
    · obtain ⟨b, off, rfl, hc⟩ := HGC.out (by omega)
      obtain ⟨d0, d1⟩ := (hc.below hBw) k hlt
      have HE : Hid (gs.take (k + 1) = gs.take k ++ [gs[k]]) := take_succ gs k hlt
      have HX : Hid (globB gs[k] = false → gs.all globB = false) := allG_bad hlt
      clear hc
      generalize gs[k] = g at d0 d1 HE HX
      go_wp2_with fail
      refine (vglob_any g _).mono ?_
      rintro e w2 ⟨rfl, hb2⟩
      have hB2 := (hB.alloc (by have := hB.size; simp at this; omega) (.cells #[.string g.name, .int .i64 g.size] 39)).trans (hb2.mono (by have := hB.size; simp at this; simp; omega))
      clear d0 d1
      cases hv : globB g
      · go_wp2_with fail
        go_ret
        exact ⟨ret_bool (by rw [HTB.out, HX.out hv]; rfl), one_below hB2⟩
      · go_wp2_with fail
        go_roundw
        case rel =>
          refine ⟨k + 1, by omega, by go_num, fun m hm => ?_, hB2⟩
          rw [HE.out] at hm
          rcases List.mem_append.1 hm with hm | hm
          · exact HG.out m hm
          · rw [List.mem_singleton.1 hm]; exact hv
        case measure => simp [intOf]; omega
    · have HA : Hid (gs.all globB = true) := by
        show _ = _
        rw [List.all_eq_true]
        have := HG.out
        rw [List.take_of_length_le (by omega)] at this
        exact this
      clear HG HGC
      obtain ⟨x0, x1⟩ := box2 hB
      go_wp2_with fail
      clear x0 x1
      go_loopw [31] (fun i wr => ∃ k : Nat, k ≤ fs.length ∧ i = .int .i64 k ∧ (∀ f ∈ fs.take k, funcB f = true) ∧ Below (w.heap.size + 1) (w.alloc (.cells #[.slice ag gs.length cg, .slice af fs.length cf] 31)) wr) (fun i _ => fs.length - (intOf i).toNat)
      case atStart => exact ⟨0, Nat.zero_le _, rfl, by simp, hB⟩
      case round =>
        clear hB hBw hlt
        obtain ⟨k, hk, rfl, hg, hB⟩ := hrel
        have HG : Hid (∀ f ∈ fs.take k, funcB f = true) := hg
        clear hg
        have hBw := one_below hB
        by_cases hlt : k < fs.length
        · obtain ⟨b, off, rfl, hc⟩ := HFC.out (by omega)
          obtain ⟨vp, vb, ⟨d0, d1, d2⟩, hp, hs⟩ := (hc.below hBw) k hlt
          have HE : Hid (fs.take (k + 1) = fs.take k ++ [fs[k]]) := take_succ fs k hlt
          have HX : Hid (funcB fs[k] = false → fs.all funcB = false) := allF_bad hlt
          have HSM : Hid (smallF fs[k]) := HS.out.2.2 fs[k] (List.getElem_mem hlt)
          clear hc
          generalize fs[k] = f at d0 d1 d2 HE HX HSM hp hs
          have HP : Hid (Strs wr vp f.params) := hp
          have HB : Hid (Stmts wr vb f.body) := hs
          obtain ⟨a2, k2, rfl, -, -, -⟩ := hp
          obtain ⟨a3, k3, rfl, -, -, -⟩ := hs
          have hBx : Below wr.heap.size wr (wr.alloc (.cells #[.string f.name, .slice a2 f.params.length k2, .slice a3 f.body.length k3] 45)) := (Below.refl _ _).alloc (Nat.le_refl _) _
          go_wp2_with fail
          refine (vfunc_any f _ _ _ ((HT.out.below HT.out.size hBw).below (HT.out.below HT.out.size hBw).size hBx) HSM.out (HP.out.below hBx) (HB.out.below hBx)).mono ?_
          rintro e w2 ⟨rfl, hb2⟩
          have hBx2 := hBx.trans (hb2.mono hBx.size)
          have hB2 := hB.trans (hBx2.mono (by have := hB.size; simp at this; omega))
          clear d0 d1 d2 hb2
          cases hv : funcB f
          · go_wp2_with fail
            go_ret
            exact ⟨ret_bool (by rw [HTB.out, HX.out hv]; simp), one_below hB2⟩
          · go_wp2_with fail
            go_roundw
            case rel =>
              refine ⟨k + 1, by omega, by go_num, fun m hm => ?_, hB2⟩
              rw [HE.out] at hm
              rcases List.mem_append.1 hm with hm | hm
              · exact HG.out m hm
              · rw [List.mem_singleton.1 hm]; exact hv
            case measure => simp [intOf]; omega
        · have HA2 : Hid (fs.all funcB = true) := by
            show _ = _
            rw [List.all_eq_true]
            have := HG.out
            rw [List.take_of_length_le (by omega)] at this
            exact this
          go_wp2_with fail
          go_ret
          exact ⟨ret_bool (by rw [HTB.out, HA.out, HA2.out]; rfl), hBw⟩

end Go.Proofs.YtijgcjeijcidfaaDoor
