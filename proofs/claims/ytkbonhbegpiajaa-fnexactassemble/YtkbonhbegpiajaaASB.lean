import Derived.Test.YtkbonhbegpiajaaASA
namespace Go.Proofs.Ytkbonhbegpiajaa
open Go.RowKit
set_option linter.unusedVariables false
set_option linter.unusedSimpArgs false
set_option linter.unusedSectionVars false
variable [Inhabited Pick]

theorem info_piece : (Try.prog.info? 60).map (fun i => (i.zero, i.size, i.bytes)) = some (some (.agg #[.int .i64 0, .int .i64 0, .int .i64 0, .int .i64 0, .int .i64 0, .int .i64 0, .int .i64 0, .int .i64 0, .pointer none, .bool false]), 10, 80) := by kernel_rfl
/-- The cells of new pieces. -/
def flatP (its : List It) : List Value := its.flatMap (fun it => pcs it 0 (.pointer none) false)
theorem flatP_snoc (its : List It) (x : It) : flatP (its ++ [x]) = flatP its ++ pcs x 0 (.pointer none) false := by simp [flatP]
theorem flatP_len (its : List It) : (flatP its).length = its.length * 10 := by
  induction its with
  | nil => rfl
  | cons x r ih =>
    have : flatP (x :: r) = pcs x 0 (.pointer none) false ++ flatP r := rfl
    rw [this, List.length_append, ih]
    simp [pcs]
    omega
theorem flatP_at (its : List It) (i k : Nat) (hi : i < its.length) (hk : k < 10) : (flatP its)[i * 10 + k]? = (pcs (its.getD i it0) 0 (.pointer none) false)[k]? := by
  induction its generalizing i with
  | nil => simp at hi
  | cons x r ih =>
    have e : flatP (x :: r) = pcs x 0 (.pointer none) false ++ flatP r := rfl
    have hl : (pcs x 0 (.pointer none) false).length = 10 := rfl
    rw [e]
    cases i with
    | zero =>
      rw [List.getElem?_append_left (by omega)]
      simp [List.getD]
    | succ i =>
      rw [List.getElem?_append_right (by omega), hl, show (i + 1) * 10 + k - 10 = i * 10 + k by omega, ih i (by simpa using hi)]
      simp [List.getD]
/-- What the loop over the items has made. -/
structure NwI (w wr : World) (its : List It) (k nn : Nat) (v : Value) (D : DataW Unit) : Prop where
  box : wr.cell? ⟨w.heap.size, 0, none⟩ = some v
  box1 : wr.cell? ⟨w.heap.size, 1, none⟩ = some (.slice none 0 0)
  free : ∀ j, wr.frozen? ⟨w.heap.size, j, none⟩ = false
  row : wr.ownsRow w.heap.size 60 10 v k (flatP (its.take k))
  ne : ∀ x, v.ownBlock = some x → w.heap.size + 1 < x
  map : wr.ownsMap Try.prog 2 (plainElem (H := Unit) Try.prog 3) (w.heap.size + 1) nn D
  le : nn ≤ k
  lab : LabIs D (its.take k)
  good : ∀ j, j < k → goodI (its.getD j it0) = true
  bel : Below w.heap.size w wr
  size : w.heap.size + 2 ≤ wr.heap.size
theorem NwI.shape {w wr : World} {its : List It} {k nn : Nat} {v : Value} {D : DataW Unit} (h : NwI w wr its k nn v D) : ∃ a c, v = .slice a k c ∧ k ≤ c ∧ (0 < k → ∃ g, a = some ⟨g, 0, none⟩ ∧ g < wr.heap.size) := by
  have h0 := h.row
  rcases h.row.2 with ⟨rfl, hz⟩ | ⟨g, c, cur, rfl, _, _, hnc, _⟩
  · exact ⟨none, 0, by rw [hz], by omega, fun h => absurd h (by omega)⟩
  · exact ⟨_, c, rfl, hnc, fun _ => ⟨g, rfl, (World.ownsRow.lt h0 g rfl).2⟩⟩
/-- More blocks. -/
theorem NwI.below {w wr w' : World} {its : List It} {k nn : Nat} {v : Value} {D : DataW Unit} (h : NwI w wr its k nn v D) (hb : Below wr.heap.size wr w') : NwI w w' its k nn v D := by
  have hs := h.size
  have hmlt := h.map.lt
  have hB : w.heap.size < wr.heap.size := by omega
  refine { h with box := (hb.cell (p := ⟨w.heap.size, 0, none⟩) hB).trans h.box, box1 := (hb.cell (p := ⟨w.heap.size, 1, none⟩) hB).trans h.box1, free := fun j => (hb.frozen (p := ⟨w.heap.size, j, none⟩) hB).trans (h.free j), row := ?_, map := ?_, bel := h.bel.trans (hb.mono (by omega)), size := Nat.le_trans hs hb.size }
  · obtain ⟨g1, g2⟩ := h.row
    refine ⟨g1, ?_⟩
    rcases g2 with g2 | ⟨g, cap, cur, rfl, g3, g4, g5⟩
    · exact .inl g2
    · refine .inr ⟨g, cap, cur, rfl, g3, ?_, g5⟩
      rw [hb.block g (Array.getElem?_eq_some_iff.1 g4).1]
      exact g4
  · obtain ⟨es, clock, h0, F, hs', hD⟩ := h.map
    exact ⟨es, clock, (hb.block _ hmlt).trans h0, F, hs', hD⟩
/-- A piece added. -/
theorem NwI.app {w wr w1 : World} {its : List It} {k nn : Nat} {v v1 : Value} {D : DataW Unit} {o : Obj} {x : It} (h : NwI w wr its k nn v D) (hx : its.take (k + 1) = its.take k ++ [x])
    (ho : w1.ownsRow w.heap.size 60 10 v1 (k + 1) (flatP (its.take k) ++ pcs x 0 (.pointer none) false)) (hg : (wr.alloc o).grownBy w1 v.ownBlock) (hf : ∀ y, v1.ownBlock = some y → v.ownBlock = some y ∨ (wr.alloc o).heap.size ≤ y) :
    w1.cell? ⟨w.heap.size, 0, none⟩ = some v ∧ w1.frozen? ⟨w.heap.size, 0, none⟩ = false ∧ (w1.setCell ⟨w.heap.size, 0, none⟩ v1).cell? ⟨w.heap.size, 0, none⟩ = some v1 ∧ (w1.setCell ⟨w.heap.size, 0, none⟩ v1).cell? ⟨w.heap.size, 1, none⟩ = some (.slice none 0 0) ∧ (∀ j, (w1.setCell ⟨w.heap.size, 0, none⟩ v1).frozen? ⟨w.heap.size, j, none⟩ = false) ∧ (w1.setCell ⟨w.heap.size, 0, none⟩ v1).ownsRow w.heap.size 60 10 v1 (k + 1) (flatP (its.take (k + 1))) ∧ (∀ y, v1.ownBlock = some y → w.heap.size + 1 < y) ∧ (w1.setCell ⟨w.heap.size, 0, none⟩ v1).ownsMap Try.prog 2 (plainElem (H := Unit) Try.prog 3) (w.heap.size + 1) nn D ∧ Below w.heap.size w (w1.setCell ⟨w.heap.size, 0, none⟩ v1) ∧ w.heap.size + 2 ≤ (w1.setCell ⟨w.heap.size, 0, none⟩ v1).heap.size ∧ (∀ b j, b < wr.heap.size → b ≠ w.heap.size → (∀ y, v.ownBlock = some y → y ≠ b) → (w1.setCell ⟨w.heap.size, 0, none⟩ v1).cell? ⟨b, j, none⟩ = wr.cell? ⟨b, j, none⟩) := by
  have hs := h.size
  have hA : ∀ x, x < wr.heap.size → (∀ y, v.ownBlock = some y → y ≠ x) → w1.heap[x]? = wr.heap[x]? := fun x hx hy => by
    rw [hg.block x (by simp; omega) (fun e => hy x e.symm rfl)]
    exact Below.heap_alloc _ _ x hx
  have eB := hA w.heap.size (by omega) (fun y hy => by have := h.ne y hy; omega)
  have em := hA (w.heap.size + 1) h.map.lt (fun y hy => by have := h.ne y hy; omega)
  have hne1 : ∀ y, v1.ownBlock = some y → w.heap.size + 1 < y := fun y hy => by
    rcases hf y hy with h' | h'
    · exact h.ne y h'
    · simp at h'; omega
  have cB : ∀ j, w1.cell? ⟨w.heap.size, j, none⟩ = wr.cell? ⟨w.heap.size, j, none⟩ := fun j => World.cell?_of_block (a := ⟨w.heap.size, j, none⟩) eB
  have fB : ∀ j, w1.frozen? ⟨w.heap.size, j, none⟩ = wr.frozen? ⟨w.heap.size, j, none⟩ := fun j => World.frozen?_of_block (a := ⟨w.heap.size, j, none⟩) eB
  have hgr : w1.grownBy (w1.setCell ⟨w.heap.size, 0, none⟩ v1) (some w.heap.size) := by
    have hb0 := (Below.refl 0 w1).setCell (p := ⟨w.heap.size, 0, none⟩) (Nat.zero_le _) v1
    exact ⟨hb0.os, hb0.tape, hb0.output, hb0.size, fun i _ hi => Below.heap_setCell _ _ _ i (fun e => hi (by rw [e]))⟩
  refine ⟨(cB 0).trans h.box, (fB 0).trans (h.free 0), World.cell?_setCell_same _ _ _ ((cB 0).trans h.box), ?_, fun j => ?_, ?_, hne1, ?_, ?_, ?_, fun b j hb1 hb2 hb3 => ?_⟩
  · rw [World.cell?_setCell_other _ _ _ _ (by intro h; simp at h), cB]; exact h.box1
  · rw [World.frozen?_setCell, fB]; exact h.free j
  · rw [hx, flatP_snoc]
    exact ho.kept hgr (by
      cases e : v1.ownBlock with
      | none => exact .inl rfl
      | some x => exact .inr (fun h' => by have := hne1 x e; injection h' with h'; omega))
  · have : w1.ownsMap Try.prog 2 (plainElem (H := Unit) Try.prog 3) (w.heap.size + 1) nn D := by
      obtain ⟨es, clock, h0, F, hs, hD⟩ := h.map
      exact ⟨es, clock, em.trans h0, F, hs, hD⟩
    exact this.kept hgr (by simp)
  · have : Below w.heap.size w w1 := (h.bel.alloc (by omega) o).grown hg (by simp; omega) (fun x hx => (World.ownsRow.lt h.row x hx).1)
    exact this.setCell (Nat.le_refl _) v1
  · have := hg.size
    simp at this ⊢
    omega
  · rw [World.cell?_setCell_other _ _ _ _ (by intro h; simp only [Addr.mk.injEq] at h; exact hb2 h.1.symm)]
    exact World.cell?_of_block (a := ⟨b, j, none⟩) (hA b hb1 hb3)


theorem new_start (w : World) (its : List It) : NwI w ((w.alloc (.cells #[.slice none 0 0, .slice none 0 0] 57)).alloc (.map #[] 0)) its 0 0 (.slice none 0 0) (.map []) := by
  refine ⟨by go_simp, by go_simp, fun j => by go_simp, World.ownsRow_nil _ _ _ _, (fun x h => by cases h), ?_, Nat.le_refl _, LabIs.nil, fun j hj => absurd hj (by omega), ((Below.refl _ _).alloc (Nat.le_refl _) _).alloc (by simp) _, by simp⟩
  have := World.ownsMap_made (w.alloc (.cells #[.slice none 0 0, .slice none 0 0] 57)) Try.prog 2 (plainElem (H := Unit) Try.prog 3)
  simpa using this
def goodAll (its : List It) : Prop := ∀ j, j < its.length → goodI (its.getD j it0) = true
/-- What newAssembly gives. -/
structure NewOk (w w' : World) (its : List It) (B g : Nat) (pa : Option Addr) (cap : Nat) (vb : Value) (A : Nat → Int) (G : Nat → Value) (L : Nat → Bool) : Prop where
  asm : Asm w' B g its.length pa cap vb its A G L
  cap : its.length ≤ cap
  go : GoOk its g G
  brs : BRow w' g vb (brs its)
  lgs : lgL L its.length = turns its 0
  bg : B ≠ g
  lB : w.heap.size ≤ B ∧ B < w'.heap.size
  lg : w.heap.size ≤ g ∧ (0 < its.length → g < w'.heap.size)
  bel : Below w.heap.size w w'

set_option maxRecDepth 100000 in
set_option maxHeartbeats 4000000 in
theorem new_any (its : List It) (v : Value) (w : World) (hn : its.length ≤ 20000) (hv : Items w v its) (hwf : ∀ i, i < its.length → (Lit.int .i64 (its.getD i it0).label).wf = true) :
    Calls Try.prog 20 #[v] w fun e w' => (goodAll its ∧ Linked its ∧ ∃ B g pa cap vb A G L, e = .returned (.pointer (some ⟨B, 0, none⟩)) ∧ NewOk w w' its B g pa cap vb A G L) ∨ (¬ (goodAll its ∧ Linked its) ∧ e = .returned (.pointer none) ∧ Below w.heap.size w w') := by
  obtain ⟨av, cv, rfl, hcl, hcm, hvc⟩ := hv
  have HVC : Hid (0 < its.length → ∃ b off, av = some ⟨b, off, none⟩ ∧ ItemsC w b off its) := hvc
  have HWf : Hid (∀ i, i < its.length → (Lit.int .i64 (its.getD i it0).label).wf = true) := hwf
  obtain ⟨i0, hi, hz0, hz1, hz2⟩ := info_parts info_piece
  clear hvc hwf
  have hmm := @run_makeMap Try.prog
  go_enter Try.func20, Try.ntmps20
  go_wp2_with fail
  go_loopw [12] (fun i wr => ∃ (k nn : Nat) (u : Value) (D : DataW Unit), k ≤ its.length ∧ i = .int .i64 k ∧ NwI w wr its k nn u D) (fun i _ => its.length - (intOf i).toNat)
  case atStart => exact ⟨0, 0, _, _, Nat.zero_le _, rfl, new_start w its⟩
  case round =>
    clear hmm
    obtain ⟨k, nn, u, D, hk, rfl, hI⟩ := hrel
    have HI : Hid (NwI w wr its k nn u D) := hI
    obtain ⟨au, cu, rfl, hcu, -⟩ := hI.shape
    have hsz := hI.size
    by_cases hlt : k < its.length
    · obtain ⟨b, off, rfl, hc⟩ := HVC.out (by omega)
      obtain ⟨c0, c1, c2, c3, c4, c5, c6⟩ := (hc.below hI.bel) k hlt
      have hwl := HWf.out k hlt
      have HTk : Hid (its.take (k + 1) = its.take k ++ [its[k]]) := by
        show _ = _
        rw [List.take_add_one, List.getElem?_eq_getElem hlt]; rfl
      have HGt : Hid (its.getD k it0 = its[k]) := by show _ = _; simp [List.getD, hlt]
      rw [HGt.out] at hwl
      clear hc hI
      generalize its[k] = x at c0 c1 c2 c3 c4 c5 c6 hwl HTk HGt
      have hA : Below wr.heap.size wr (wr.alloc (.cells #[.int .i64 x.kind, .int .i64 x.ins.op, .int .i64 x.ins.rd, .int .i64 x.ins.s1, .int .i64 x.ins.s2, .int .i64 x.ins.im, .int .i64 x.label] 38)) := (Below.refl _ _).alloc (Nat.le_refl _) _
      have HVl : Hid (∀ w : World, Calls Try.prog 29 #[.agg #[.int .i64 x.kind, .int .i64 x.ins.op, .int .i64 x.ins.rd, .int .i64 x.ins.s1, .int .i64 x.ins.s2, .int .i64 x.ins.im, .int .i64 x.label]] w fun e w' => e = .returned (.bool (goodI x)) ∧ Below w.heap.size w w') := fun w => vitem_any x w
      go_wp2_with fail
      refine (HVl.out _).mono ?_
      rintro e w1 ⟨rfl, hb1⟩
      simp only [World.size_alloc] at hb1
      have hB1 := one_belowA hb1
      obtain ⟨y0, y1, y2, y3, y4, y5, y6⟩ := box7 hb1
      have HI1 : Hid (NwI w w1 its k nn (.slice au k cu) D) := HI.out.below hB1
      have hw1 : wr.heap.size < w1.heap.size := by have := hb1.size; simp at this; omega
      clear c0 c1 c2 c3 c4 c5 c6
      cases hg : goodI x
      · have HNo : Hid (¬ (goodAll its ∧ Linked its)) := fun h => by
          have := h.1 k hlt
          rw [HGt.out, hg] at this
          cases this
        go_wp2_with fail
        go_ret
        exact .inr ⟨HNo.out, rfl, HI1.out.bel⟩
      · have HGood : Hid (∀ j, j < k + 1 → goodI (its.getD j it0) = true) := fun j hj => by
          by_cases e : j = k
          · subst e; rw [HGt.out]; exact hg
          · exact HI.out.good j (by omega)
        have b0 := HI1.out.box
        have bf := HI1.out.free 0
        have HRa : Hid ((w1.alloc (.cells #[.int .i64 x.kind, .int .i64 x.ins.op, .int .i64 x.ins.rd, .int .i64 x.ins.s1, .int .i64 x.ins.s2, .int .i64 x.ins.im, .int .i64 x.label, .int .i64 0, .pointer none, .bool false] 60)).ownsRow w.heap.size 60 10 (.slice au k cu) k (flatP (its.take k))) := HI1.out.row.alloc _
        have HLit : Hid (∀ j u, (pcs x 0 (.pointer none) false)[j]? = some u → (w1.alloc (.cells #[.int .i64 x.kind, .int .i64 x.ins.op, .int .i64 x.ins.rd, .int .i64 x.ins.s1, .int .i64 x.ins.s2, .int .i64 x.ins.im, .int .i64 x.label, .int .i64 0, .pointer none, .bool false] 60)).cell? ((⟨w1.heap.size, 0, none⟩ : Addr).add j) = some u) := by
          intro j u hj
          rw [addr_add, World.cell?_alloc_at _ _ _ _ rfl]
          simpa [pcs] using hj
        have hone : ∀ u ∈ pcs x 0 (.pointer none) false, u.oneCell' = true := by
          intro u hu
          simp only [pcs, List.mem_cons, List.not_mem_nil, or_false] at hu
          rcases hu with rfl | rfl | rfl | rfl | rfl | rfl | rfl | rfl | rfl | rfl <;> rfl
        have hvlt : ∀ y, (Value.slice au k cu).ownBlock = some y → y ≠ wr.heap.size := fun y hy => by have := (World.ownsRow.lt HI.out.row y hy).2; omega
        clear hg
        go_wp2_with (at_builtin; refine wpList_appF rfl _ _ _ rfl w.heap.size 60 i0 _ 10 80 Try.underlying54 hi hz0 hz1 hz2 rfl (by decide) _ k (flatP (its.take k)) rfl HRa.out ⟨w1.heap.size, 0, none⟩ 1 1 (pcs x 0 (.pointer none) false) rfl rfl HLit.out hone (by omega) (by decide) (by have := hB1.size; simp; omega) ?_)
        intro v1 w2 ho2 hg2 hf2
        obtain ⟨q0, q1, q2, q3, q4, q5, q6, q7, q8, q9, q10⟩ := HI1.out.app HTk.out ho2 hg2 (by simpa using hf2)
        have n0 := (q10 wr.heap.size 0 (by omega) (by omega) hvlt).trans y0
        have n6 := (q10 wr.heap.size 6 (by omega) (by omega) hvlt).trans y6
        have HQ : Hid _ := And.intro q2 (And.intro q3 (And.intro q4 (And.intro q5 (And.intro q6 (And.intro q7 (And.intro q8 q9))))))
        obtain ⟨a1, c1', rfl⟩ : ∃ a1 c1', v1 = .slice a1 (k + 1) c1' := by
          rcases ho2.2 with ⟨_, hz⟩ | ⟨g, c, cur, rfl, _⟩
          · omega
          · exact ⟨_, c, rfl⟩
        clear ho2 hg2 hf2 q2 q3 q4 q5 q6 q7 q8 q9 q10 y0 y1 y2 y3 y4 y5 y6 b0 bf HRa HLit
        have hnn := HI.out.le
        have hwm : w.heap.size + 1 < (w2.setCell ⟨w.heap.size, 0, none⟩ (.slice a1 (k + 1) c1')).heap.size := HQ.out.2.2.2.2.2.1.lt
        by_cases h2 : x.kind = 2
        · rw [h2] at n0
          have hTl : (its.take k).length = k := by simp; omega
          rcases HI.out.lab.cases x.label with hno | ⟨q, hq⟩
          · have hlook := lab_none HQ.out.2.2.2.2.2.1 HI.out.lab hwl hno
            have HPut : Hid (LabIs (D.put (.int .i64 x.label) (.lit (.int .i64 (k : Int)))) (its.take (k + 1))) := by
              have := HI.out.lab.put h2 hno
              rw [hTl] at this
              rw [HTk.out]
              exact this
            clear hno h2 hTl
            go_wp2_with (first
              | (at_mapUpdate; refine wpList_mapUpdate_own _ rfl _ _ _ 69 rfl 2 3 (Maps.int_keyed Try.underlying2) Try.underlying69 _ (w.heap.size + 1) nn D rfl HQ.out.2.2.2.2.2.1 (by unfold maxLen; omega) _ _ _ rfl rfl (Maps.keyOf_int_mk Try.underlying2 hwl) _ [] (plainElem_int Try.underlying3 (WalkArith.wf_i64 (by omega))) ?_; intro w3 hown3 hgrow3)
              | go_in)
            have HN : Hid (NwI w w3 its (k + 1) (nn + 1) (.slice a1 (k + 1) c1') (D.put (.int .i64 x.label) (.lit (.int .i64 (k : Int))))) := by
              obtain ⟨p0, p1, p2, p3, p4, p5, p6, p7⟩ := HQ.out
              have hBk := hgrow3.block w.heap.size (by omega) (by simp)
              refine ⟨hgrow3.cell p0 (by simp), hgrow3.cell p1 (by simp), fun j => (World.frozen?_of_block (a := ⟨w.heap.size, j, none⟩) hBk).trans (p2 j), p3.kept hgrow3 ?_, p4, hown3, by omega, HPut.out, HGood.out, p6.grown hgrow3 (by omega) (fun j hj => by cases hj; omega), Nat.le_trans p7 hgrow3.size⟩
              cases e : (Value.slice a1 (k + 1) c1').ownBlock with
              | none => exact .inl rfl
              | some y => exact .inr (fun h' => by have := p4 y e; injection h' with h'; omega)
            clear hown3 hgrow3
            go_roundw
            case rel => exact ⟨k + 1, _, _, _, by omega, by go_num, HN.out⟩
            case measure => simp [intOf]; omega
          · have hlook := lab_look HQ.out.2.2.2.2.2.1 HI.out.lab hwl hq
            have HNo : Hid (¬ (goodAll its ∧ Linked its)) := fun h => by
              have h1 := h.2 k hlt (by rw [HGt.out]; omega)
              rw [HGt.out] at h1
              have h3 := posL_take_le its (k + 1) x.label
              rw [HTk.out, posL_snoc, hq] at h3
              have hil : isL x x.label = true := decide_eq_true ⟨h2, rfl⟩
              rw [hil] at h3
              simp at h3
              omega
            clear hq h2 hTl
            go_wp2_with fail
            go_ret
            exact .inr ⟨HNo.out, rfl, HQ.out.2.2.2.2.2.2.1⟩
        · have HSk : Hid (LabIs D (its.take (k + 1))) := by show LabIs _ _; rw [HTk.out]; exact HI.out.lab.skip h2
          have HN : Hid (NwI w (w2.setCell ⟨w.heap.size, 0, none⟩ (.slice a1 (k + 1) c1')) its (k + 1) nn (.slice a1 (k + 1) c1') D) := ⟨HQ.out.1, HQ.out.2.1, HQ.out.2.2.1, HQ.out.2.2.2.1, HQ.out.2.2.2.2.1, HQ.out.2.2.2.2.2.1, by omega, HSk.out, HGood.out, HQ.out.2.2.2.2.2.2.1, HQ.out.2.2.2.2.2.2.2⟩
          generalize x.kind = kd at n0 h2
          go_wp2_with fail
          go_roundw
          case rel => exact ⟨k + 1, _, _, _, by omega, by go_num, HN.out⟩
          case measure => simp [intOf]; omega
    · obtain rfl : k = its.length := by omega
      have hTk : its.take its.length = its := List.take_length
      have HGA : Hid (goodAll its) := HI.out.good
      obtain ⟨g, hg1, hg2, hg3, hg4⟩ : ∃ g, (0 < its.length → au = some ⟨g, 0, none⟩) ∧ w.heap.size + 1 < g ∧ (0 < its.length → g < wr.heap.size) ∧ PRow wr g its.length its (fun _ => 0) (fun _ => .pointer none) (fun _ => false) := by
        by_cases h0 : 0 < its.length
        · have hrow := hI.row
          rcases hrow.2 with ⟨_, hz⟩ | ⟨g, c, cur, he, _⟩
          · omega
          · simp only [Value.slice.injEq] at he
            obtain ⟨rfl, -, rfl⟩ := he
            have hlt := (World.ownsRow.lt hrow g rfl).2
            refine ⟨g, fun _ => rfl, hI.ne g rfl, fun _ => hlt, fun i hi j hj => ⟨?_, World.ownsRow.frozenAt hrow _⟩⟩
            have e := flatP_at its i j hi hj
            have hl : (pcs (its.getD i it0) 0 (.pointer none) false).length = 10 := rfl
            obtain ⟨y, hy⟩ : ∃ y, (pcs (its.getD i it0) 0 (.pointer none) false)[j]? = some y := ⟨_, List.getElem?_eq_getElem (by rw [hl]; exact hj)⟩
            rw [hy] at e
            have := World.ownsRow.cells hrow (g := g) rfl (i * 10 + j) y (by rw [hTk]; exact e)
            rw [addr_add] at this
            rw [this, hy]
        · exact ⟨w.heap.size + 2, fun h => absurd h h0, by omega, fun h => absurd h h0, fun i hi => absurd hi (by omega)⟩
      have hLab : LabIs D its := by have := hI.lab; rw [hTk] at this; exact this
      have HLk : Hid (LkI wr wr w.heap.size w.heap.size g its.length (w.heap.size + 1) nn au cu its (fun _ => 0) (fun _ => false) D 0 (.slice none 0 0) (fun _ => .pointer none)) :=
        ⟨hI.box, hI.box1, hI.free 1, hg4, World.ownsRow_nil _ _ _ _, fun x h => (by cases h), hI.map, fun j hj => absurd hj (by omega), fun j hj => absurd hj (by omega), Below.refl _ _, Nat.le_refl _⟩
      have HLab : Hid (LabIs D its) := hLab
      clear hLab hg4 hI
      go_wp2_with fail
      refine (link_any w.heap.size w.heap.size g its.length (w.heap.size + 1) nn au cu its (fun _ => 0) (fun _ => .pointer none) (fun _ => false) D wr (by omega) (by omega) (Nat.le_refl _) (by omega) (by omega) hg3 (by omega) hn hcu rfl hg1 HLk.out HLab.out HWf.out).mono ?_
      rintro e w1 (⟨hL, vb, G', rfl, hI1⟩ | ⟨hL, rfl, hb1, hs1⟩)
      · have HN : Hid (NewOk w w1 its w.heap.size g au cu vb (fun _ => 0) G' (fun _ => false)) := by
          refine ⟨⟨rfl, hI1.box, hg1, hI1.row, hI1.box1⟩, hcu, fun i hi h1 h2 => hI1.go i hi h1 h2, own_brow hI1.brs (fun x hx => (hI1.ne x hx).1), ?_, by omega, ⟨Nat.le_refl _, by have := hI1.size; omega⟩, ⟨by omega, fun h => by have := hg3 h; have := hI1.size; omega⟩, HI.out.bel.trans hI1.bel⟩
          simp [lgL, turns, List.map_const']
        have HL2 : Hid (Linked its) := hL
        clear hI1 hL
        go_wp2_with fail
        go_ret
        exact .inl ⟨HGA.out, HL2.out, _, _, _, _, _, _, _, _, rfl, HN.out⟩
      · have HNo : Hid (¬ (goodAll its ∧ Linked its)) := fun h => hL h.2
        have HB : Hid (Below w.heap.size w w1) := HI.out.bel.trans hb1
        clear hL hb1
        go_wp2_with fail
        go_ret
        exact .inr ⟨HNo.out, rfl, HB.out⟩

end Go.Proofs.Ytkbonhbegpiajaa
