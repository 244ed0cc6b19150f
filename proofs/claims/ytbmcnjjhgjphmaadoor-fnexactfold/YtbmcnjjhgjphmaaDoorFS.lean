import Derived.Test.YtbmcnjjhgjphmaaDoorFP
import Derived.Test.YtbmcnjjhgjphmaaDoorFD
import Derived.Test.YtbmcnjjhgjphmaaDoorV7
namespace Go.Proofs.YtbmcnjjhgjphmaaDoor
open Go.RowKit
set_option linter.unusedVariables false
set_option linter.unusedSimpArgs false

/-- What Fold answers. -/
def FoldR (e r : List Nd) : Prop := if e.length ≤ 2000 ∧ oneB e = true then Fd apN e r else r = []
theorem FoldR.exists (e : List Nd) : ∃ r, FoldR e r := by
  unfold FoldR
  split
  · rename_i h
    exact Fd.exists apN e.length e (Nat.le_refl _) h.2
  · exact ⟨[], rfl⟩
theorem FoldR.yes {e r : List Nd} (h : FoldR e r) (h1 : e.length ≤ 2000) (h2 : oneB e = true) : Fd apN e r := by
  unfold FoldR at h
  rw [if_pos ⟨h1, h2⟩] at h
  exact h
theorem FoldR.no {e r : List Nd} (h : FoldR e r) (h1 : e.length ≤ 2000 → oneB e = false) : r = [] := by
  unfold FoldR at h
  rw [if_neg (by rintro ⟨a, b⟩; rw [h1 a] at b; cases b)] at h
  exact h
theorem FoldR.len {e r : List Nd} (h : FoldR e r) : r.length ≤ 2000 := by
  unfold FoldR at h
  split at h
  · rename_i h1
    have := h.len
    omega
  · subst h; simp
theorem NFree.mono {B B' : Nat} {w : World} {v : Value} {ns : List Nd} (h : NFree B w v ns) (hB : B' ≤ B) : NFree B' w v ns := by
  obtain ⟨g, cap, e, h1, h2, h3, h4⟩ := h
  exact ⟨g, cap, e, h1, h2, Nat.le_trans hB h3, h4⟩
theorem nfree_nil (w : World) (B : Nat) (hB : B ≤ w.heap.size) (t : TypeId) : NFree B (w.alloc (.cells #[] t)) (.slice (some ⟨w.heap.size, 0, none⟩) 0 0) [] :=
  ⟨w.heap.size, 0, rfl, Nat.le_refl _, by omega, hB, by simp, fun j hj => absurd hj (by simp), fun j hj => absurd hj (by simp)⟩

set_option maxHeartbeats 2000000 in
theorem foldI_any (v : Value) (e r : List Nd) (w : World) (hT : Tab w) (hl : e.length ≤ 1048576) (hN : Nodes w v e) (hr : FoldR e r) :
    Calls Tryd.prog 7 #[v] w fun x w' => ∃ u, x = .returned u ∧ NFree w.heap.size w' u r ∧ Below w.heap.size w w' := by
  have HN : Hid (Nodes w v e) := hN
  have HT : Hid (Tab w) := hT
  have HR : Hid (FoldR e r) := hr
  have hsz := hT.size
  obtain ⟨a, cap, rfl, hcl, hcm, -⟩ := hN
  clear hT hr
  by_cases h2 : 2000 < e.length
  · obtain rfl := HR.out.no (fun h => absurd h (by omega))
    go_enter Tryd.func7, Tryd.ntmps7
    go_wp2_with fail
    go_ret
    exact ⟨_, rfl, nfree_nil w _ (Nat.le_refl _) _, (Below.refl _ _).alloc (Nat.le_refl _) _⟩
  · go_enter Tryd.func7, Tryd.ntmps7
    go_wp2_with fail
    refine (one_any _ e _ HT.out (by omega) HN.out).mono ?_
    rintro x w1 ⟨rfl, hb1⟩
    have HB1 : Hid (Below w.heap.size w w1) := hb1
    clear hb1
    cases ho : oneB e
    · obtain rfl := HR.out.no (fun _ => ho)
      go_wp2_with fail
      go_ret
      exact ⟨_, rfl, nfree_nil w1 _ HB1.out.size _, HB1.out.alloc HB1.out.size _⟩
    · have HO : Hid (oneB e = true) := ho
      have HF : Hid (Fd apN e r) := HR.out.yes (by omega) ho
      have HLen : Hid (r.length ≤ 2000) := HR.out.len
      clear ho
      go_wp2_with fail
      refine (mapped_any _ e r _ (HT.out.below hsz HB1.out) (HN.out.below HB1.out) HO.out (by omega) HF.out).mono ?_
      rintro x w2 ⟨u, S, rfl, hT2, hS2, hb2⟩
      have HT2 : Hid (Tv w2 S u r) := hT2
      have HS2 : Hid (∀ B, S B → B < w2.heap.size) := fun B hB => (hS2 B hB).2
      have HB2 : Hid (Below w.heap.size w w2) := HB1.out.trans (hb2.mono HB1.out.size)
      obtain ⟨ta, tb, rfl⟩ := hT2.isI
      clear hT2 hS2 hb2
      go_wp2_with fail
      refine (lowered_any _ r S _ HS2.out HT2.out HLen.out).mono ?_
      rintro x w3 ⟨v3, rfl, h3, hb3⟩
      have HN3 : Hid (NFree w2.heap.size w3 v3 r) := h3
      have HB3 : Hid (Below w.heap.size w w3) := HB2.out.trans (hb3.mono HB2.out.size)
      obtain ⟨g3, c3, rfl, -⟩ := h3
      clear hb3
      go_wp2_with fail
      go_ret
      exact ⟨_, rfl, HN3.out.mono HB2.out.size, HB3.out⟩

set_option maxHeartbeats 2000000 in
theorem foldG_any (v : Value) (e r : List Nd) (w : World) (hl : e.length ≤ 1048576) (hN : Nodes w v e) (hr : FoldR e r) :
    Calls Tryd.prog 5 #[v] w fun x w' => ∃ u, x = .returned u ∧ Nodes w' u r ∧ Below w.heap.size w w' := by
  have HN : Hid (Nodes w v e) := hN
  have HR : Hid (FoldR e r) := hr
  obtain ⟨a, cap, rfl, hcl, hcm, -⟩ := hN
  clear hr
  go_enter Tryd.func5, Tryd.ntmps5
  go_wp2_with fail
  refine (gexpr_any _ e _ hl HN.out).mono ?_
  rintro x w1 ⟨rfl, hb1⟩
  have HB1 : Hid (Below w.heap.size w w1) := hb1
  clear hb1
  cases ho : (decide (e.length ≤ 2000) && oneB e)
  · have hn : e.length ≤ 2000 → oneB e = false := fun h => by simpa [h] using ho
    obtain rfl := HR.out.no hn
    clear ho hn
    go_wp2_with fail
    go_ret
    exact ⟨_, rfl, (nfree_nil w1 _ (Nat.le_refl _) _).nodes, HB1.out.alloc HB1.out.size _⟩
  · simp only [Bool.and_eq_true, decide_eq_true_eq] at ho
    have HF : Hid (Fd apN e r) := HR.out.yes ho.1 ho.2
    clear ho
    go_wp2_with fail
    refine (foldS_any w1 HF.out hl _ w1 (HN.out.below HB1.out) (Below.refl _ _)).mono ?_
    rintro x w2 ⟨u, rfl, h2, -, hb2⟩
    have HN2 : Hid (Nodes w2 u r) := h2
    have HB2 : Hid (Below w.heap.size w w2) := HB1.out.trans (hb2.mono HB1.out.size)
    obtain ⟨g2, c2, rfl, -⟩ := h2
    clear hb2
    go_wp2_with fail
    go_ret
    exact ⟨_, rfl, HN2.out, HB2.out⟩

end Go.Proofs.YtbmcnjjhgjphmaaDoor
