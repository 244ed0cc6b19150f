import Derived.Test.YtkbonhbegpiajaaAS9
namespace Go.Proofs.Ytkbonhbegpiajaa
open Go.RowKit
set_option linter.unusedVariables false
set_option linter.unusedSimpArgs false
set_option linter.unusedSectionVars false
variable [Inhabited Pick]

theorem linked_of {its : List It} (h : ∀ j, j < its.length → (its.getD j it0).kind ≠ 1 → (posL its (its.getD j it0).label).length = 1) : Linked its := h
set_option maxRecDepth 100000 in
set_option maxHeartbeats 4000000 in
theorem link_any (B B0 g n bm nn : Nat) (pa : Option Addr) (cap : Nat) (its : List It) (A : Nat → Int) (G : Nat → Value) (L : Nat → Bool) (D : DataW Unit) (w : World) (hB : B ≠ g) (hb0 : B0 ≤ g) (hb1 : B0 ≤ B) (hm : bm ≠ g) (hm2 : bm ≠ B) (hgs : 0 < n → g < w.heap.size) (hBs : B < w.heap.size) (hn : n ≤ 20000) (hc : n ≤ cap) (hlen : its.length = n) (hrow : 0 < n → pa = some ⟨g, 0, none⟩)
    (hI : LkI w w B B0 g n bm nn pa cap its A L D 0 (.slice none 0 0) G) (hD : LabIs D its) (hwf : ∀ i, i < n → (Lit.int .i64 (its.getD i it0).label).wf = true) :
    Calls Try.prog 30 #[.pointer (some ⟨B, 0, none⟩), .map (some bm)] w fun e w' => (Linked its ∧ ∃ vb G', e = .returned (.bool true) ∧ LkI w w' B B0 g n bm nn pa cap its A L D n vb G') ∨ (¬ Linked its ∧ e = .returned (.bool false) ∧ Below B0 w w' ∧ w.heap.size ≤ w'.heap.size) := by
  have HI0 : Hid (LkI w w B B0 g n bm nn pa cap its A L D 0 (.slice none 0 0) G) := hI
  have HD : Hid (LabIs D its) := hD
  have HWf : Hid (∀ i, i < n → (Lit.int .i64 (its.getD i it0).label).wf = true) := hwf
  have b0 := hI.box
  obtain ⟨i0, hi, hz0, hz1, hz2⟩ := info_parts info_ptr
  clear hI hD hwf
  go_enter Try.func30, Try.ntmps30
  go_wp2_with fail
  clear b0
  go_loopw [14] (fun i wr => ∃ (k : Nat) (vb : Value) (G' : Nat → Value), k ≤ n ∧ i = .int .i64 k ∧ LkI w wr B B0 g n bm nn pa cap its A L D k vb G') (fun i _ => n - (intOf i).toNat)
  case atStart => exact ⟨0, _, _, Nat.zero_le _, rfl, HI0.out⟩
  case round =>
    clear HI0
    obtain ⟨k, vb, G', hk, rfl, hI⟩ := hrel
    obtain ⟨ab, cb, rfl⟩ := hI.shape
    have HI : Hid (LkI w wr B B0 g n bm nn pa cap its A L D k (.slice ab (bsK its k).length cb) G') := hI
    have b0 := hI.box
    have b1 := hI.box1
    have bf := hI.free
    have hszr := hI.size
    have hbl := bsK_len its k
    clear hI
    by_cases hlt : k < n
    · have hpa := hrow (by omega)
      subst hpa
      have HPc : Hid (Pc wr g (k * 10) (its.getD k it0) (A k) (G' k) (L k)) := HI.out.row.pc k hlt
      have c0 := HPc.out.c0
      have c6 := HPc.out.c6
      have hwl := HWf.out k hlt
      obtain ⟨it, hit⟩ : ∃ it, it = its.getD k it0 := ⟨_, rfl⟩
      have HIt : Hid (it = its.getD k it0) := hit
      rw [← hit] at c0 c6 hwl
      have hcase := HD.out.cases it.label
      clear hit
      by_cases h1 : it.kind = 1
      · rw [h1] at c0
        have HN : Hid (LkI w wr B B0 g n bm nn (some ⟨g, 0, none⟩) cap its A L D (k + 1) (.slice ab (bsK its k).length cb) G') := HI.out.skip (.inl (by rw [← HIt.out]; exact h1)) (fun h => by rw [← HIt.out] at h; omega)
        clear h1
        go_wp2_with fail
        go_roundw
        case rel => exact ⟨k + 1, _, _, by omega, by go_num, HN.out⟩
        case measure => simp [intOf]; omega
      by_cases h2 : it.kind = 2
      · rw [h2] at c0
        have hp1 : (posL its it.label).length = 1 := by
          have hmem : k ∈ posL its it.label := mem_posL (by omega) (by rw [← HIt.out]; exact decide_eq_true ⟨h2, rfl⟩)
          rcases hcase with h | ⟨q, h⟩
          · rw [h] at hmem; cases hmem
          · rw [h]; rfl
        have HN : Hid (LkI w wr B B0 g n bm nn (some ⟨g, 0, none⟩) cap its A L D (k + 1) (.slice ab (bsK its k).length cb) G') := HI.out.skip (.inr (by rw [← HIt.out]; exact h2)) (fun h => by rw [← HIt.out]; exact hp1)
        clear h1 h2 hp1
        go_wp2_with fail
        go_roundw
        case rel => exact ⟨k + 1, _, _, by omega, by go_num, HN.out⟩
        case measure => simp [intOf]; omega
      rcases hcase with hno | ⟨q, hq⟩
      · have hlook := lab_none HI.out.map HD.out hwl hno
        have HNL : Hid (¬ Linked its) := fun hl => by
          have := hl k (by omega) (by rw [← HIt.out]; exact h1)
          rw [← HIt.out, hno] at this
          cases this
        have HB : Hid (Below B0 w wr) := HI.out.bel
        clear hno
        generalize it.kind = kd at c0 h1 h2
        have e1 : (kd == 1) = false := by simpa using h1
        have e2 : (kd == 2) = false := by simpa using h2
        go_wp2_with fail
        go_ret
        exact .inr ⟨HNL.out, rfl, HB.out, hszr⟩
      · have hlook := lab_look HI.out.map HD.out hwl hq
        have hqm := posL_mem (its := its) (lab := it.label) (k := q) (by rw [hq]; simp)
        have hqn : q < n := by omega
        have HTg : Hid (tgt its k = q) := by
          show _ = _
          unfold tgt
          rw [← HIt.out, if_neg h1, hq]
          rfl
        have hp1 : (posL its (its.getD k it0).label).length = 1 := by rw [← HIt.out, hq]; rfl
        have f8 := HI.out.row.free k hlt 8 (by omega)
        have c8 := HPc.out.c8
        have HGl : Hid _ := HI.out.goal hlt hB hm hb0 hp1 (.pointer (some ⟨g, q * 10, none⟩)) (by rw [HTg.out])
        have c0' := ((HGl.out.1.row).pc k hlt).c0
        rw [← HIt.out] at c0'
        have b0' := HGl.out.1.box
        have b1' := HGl.out.1.box1
        have bf' := HGl.out.1.free
        clear hqm hp1 hq
        by_cases h3 : it.kind = 3
        · rw [h3] at c0 c0'
          have HK3 : Hid ((its.getD k it0).kind = 3) := by show _ = _; rw [← HIt.out]; exact h3
          have HB1 : Hid ((wr.setCell ⟨g, k * 10 + 8, none⟩ (.pointer (some ⟨g, q * 10, none⟩))).ownsRow B0 58 1 (.slice ab (bsK its k).length cb) (bsK its k).length (ptrs g (bsK its k))) := HGl.out.1.brs
          have HBa : Hid (((wr.setCell ⟨g, k * 10 + 8, none⟩ (.pointer (some ⟨g, q * 10, none⟩))).alloc (.cells #[.pointer (some ⟨g, k * 10, none⟩)] 58)).ownsRow B0 58 1 (.slice ab (bsK its k).length cb) (bsK its k).length (ptrs g (bsK its k))) := HB1.out.alloc _
          have HLit : Hid (∀ j u, [Value.pointer (some ⟨g, k * 10, none⟩)][j]? = some u → ((wr.setCell ⟨g, k * 10 + 8, none⟩ (.pointer (some ⟨g, q * 10, none⟩))).alloc (.cells #[.pointer (some ⟨g, k * 10, none⟩)] 58)).cell? ((⟨wr.heap.size, 0, none⟩ : Addr).add j) = some u) := by
            intro j u hj
            rw [addr_add]
            match j with
            | 0 =>
              simp at hj
              subst hj
              rw [World.cell?_alloc_at _ _ _ _ (by simp)]
              rfl
            | (j + 1) => simp at hj
          clear h1 h2 h3 HB1
          go_wp2_with (at_builtin; refine wpList_appF rfl _ _ _ rfl B0 58 i0 _ 1 8 Try.underlying55 hi hz0 hz1 hz2 rfl (by decide) _ (bsK its k).length (ptrs g (bsK its k)) rfl HBa.out ⟨wr.heap.size, 0, none⟩ 1 1 [.pointer (some ⟨g, k * 10, none⟩)] rfl rfl HLit.out (by simp [Value.oneCell']) (by omega) (by decide) (by simp; omega) ?_)
          intro v1 w1 ho1 hg1 hf1
          have hgs' := hgs (by omega)
          obtain ⟨hN, b1'', bf''⟩ := HGl.out.1.branch HK3.out hB hm2 hb1 (by simp; omega) (by simp; omega) HGl.out.2.1 HGl.out.2.2 ho1 hg1 (by simpa using hf1)
          have HN : Hid _ := hN
          obtain ⟨a2, c2, rfl⟩ := hN.shape
          clear hN ho1 hg1 hf1
          go_wp2_with fail
          go_roundw
          case rel => exact ⟨k + 1, _, _, by omega, by go_num, HN.out⟩
          case measure => simp [intOf]; omega
        · have HN : Hid (LkI w (wr.setCell ⟨g, k * 10 + 8, none⟩ (.pointer (some ⟨g, q * 10, none⟩))) B B0 g n bm nn (some ⟨g, 0, none⟩) cap its A L D (k + 1) (.slice ab (bsK its k).length cb) (upd G' k (.pointer (some ⟨g, q * 10, none⟩)))) := by
            refine { HGl.out.1 with brs := ?_, seen := HGl.out.2.1, go := HGl.out.2.2 }
            rw [bsK_no (by rw [← HIt.out]; exact h3)]
            exact HGl.out.1.brs
          generalize it.kind = kd at c0 c0' h1 h2 h3
          have e1 : (kd == 1) = false := by simpa using h1
          have e2 : (kd == 2) = false := by simpa using h2
          have e3 : (kd == 3) = false := by simpa using h3
          go_wp2_with fail
          go_roundw
          case rel => exact ⟨k + 1, _, _, by omega, by go_num, HN.out⟩
          case measure => simp [intOf]; omega
    · obtain rfl : k = n := by omega
      have HLk : Hid (Linked its) := fun j hj h1 => HI.out.seen j (by omega) h1
      go_wp2_with fail
      go_ret
      exact .inl ⟨HLk.out, _, _, rfl, HI.out⟩

end Go.Proofs.Ytkbonhbegpiajaa
