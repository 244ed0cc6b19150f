import Derived.Test.YtkbonhbegpiajaaAS8
namespace Go.Proofs.Ytkbonhbegpiajaa
open Go.RowKit
set_option linter.unusedVariables false
set_option linter.unusedSimpArgs false
set_option linter.unusedSectionVars false
variable [Inhabited Pick]

theorem info_ptr : (Try.prog.info? 58).map (fun i => (i.zero, i.size, i.bytes)) = some (some (.pointer none), 1, 8) := by kernel_rfl
/-- The branches among the first. -/
def bsK (its : List It) (k : Nat) : List Nat := (List.range k).filter (fun i => decide ((its.getD i it0).kind = 3))
theorem bsK_yes {its : List It} {k : Nat} (h : (its.getD k it0).kind = 3) : bsK its (k + 1) = bsK its k ++ [k] := by
  unfold bsK
  rw [List.range_succ, List.filter_append]
  simp only [List.filter_cons, List.filter_nil, h, decide_true, if_true]
theorem bsK_no {its : List It} {k : Nat} (h : (its.getD k it0).kind ≠ 3) : bsK its (k + 1) = bsK its k := by
  unfold bsK
  rw [List.range_succ, List.filter_append]
  simp only [List.filter_cons, List.filter_nil, decide_eq_false h, Bool.false_eq_true, if_false, List.append_nil]
theorem bsK_len (its : List It) (k : Nat) : (bsK its k).length ≤ k := by
  have := List.length_filter_le (fun i => decide ((its.getD i it0).kind = 3)) (List.range k)
  simpa [bsK] using this
def ptrs (g : Nat) (bs : List Nat) : List Value := bs.map (fun i => Value.pointer (some ⟨g, i * 10, none⟩))
theorem ptrs_snoc (g : Nat) (bs : List Nat) (i : Nat) : ptrs g (bs ++ [i]) = ptrs g bs ++ [.pointer (some ⟨g, i * 10, none⟩)] := by simp [ptrs]
theorem own_brow {w : World} {B0 g : Nat} {vb : Value} {bs : List Nat} (h : w.ownsRow B0 58 1 vb bs.length (ptrs g bs)) (hne : ∀ x, vb.ownBlock = some x → x ≠ g) : BRow w g vb bs := by
  have h0 := h
  rcases h.2 with ⟨rfl, hz⟩ | ⟨gb, cap, cur, rfl, hbg, hg, hnc, hcm, hcs, htake⟩
  · exact ⟨none, 0, by rw [hz], by omega, fun h => absurd h (by omega)⟩
  · refine ⟨_, cap, rfl, hnc, fun _ => ⟨gb, rfl, hne gb rfl, (World.ownsRow.lt h0 gb rfl).2, fun j hj => ?_⟩⟩
    have := World.ownsRow.cells h0 (g := gb) rfl j (.pointer (some ⟨g, bs[j] * 10, none⟩)) (by simp [ptrs, hj])
    rw [addr_add] at this
    exact this
/-- What link has done before a piece. -/
structure LkI (w wr : World) (B B0 g n bm nn : Nat) (pa : Option Addr) (cap : Nat) (its : List It) (A : Nat → Int) (L : Nat → Bool) (D : DataW Unit) (k : Nat) (vb : Value) (G : Nat → Value) : Prop where
  box : wr.cell? ⟨B, 0, none⟩ = some (.slice pa n cap)
  box1 : wr.cell? ⟨B, 1, none⟩ = some vb
  free : wr.frozen? ⟨B, 1, none⟩ = false
  row : PRow wr g n its A G L
  brs : wr.ownsRow B0 58 1 vb (bsK its k).length (ptrs g (bsK its k))
  ne : ∀ x, vb.ownBlock = some x → x ≠ g ∧ x ≠ B ∧ x ≠ bm
  map : wr.ownsMap Try.prog 2 (plainElem (H := Unit) Try.prog 3) bm nn D
  seen : ∀ j, j < k → (its.getD j it0).kind ≠ 1 → (posL its (its.getD j it0).label).length = 1
  go : ∀ j, j < k → (its.getD j it0).kind ≠ 1 → (its.getD j it0).kind ≠ 2 → G j = .pointer (some ⟨g, tgt its j * 10, none⟩)
  bel : Below B0 w wr
  size : w.heap.size ≤ wr.heap.size
theorem LkI.shape {w wr : World} {B B0 g n bm nn : Nat} {pa : Option Addr} {cap : Nat} {its : List It} {A : Nat → Int} {L : Nat → Bool} {D : DataW Unit} {k : Nat} {vb : Value} {G : Nat → Value} (h : LkI w wr B B0 g n bm nn pa cap its A L D k vb G) : ∃ a c, vb = .slice a (bsK its k).length c := by
  rcases h.brs.2 with ⟨rfl, hz⟩ | ⟨gb, c, cur, rfl, _⟩
  · exact ⟨none, 0, by rw [hz]⟩
  · exact ⟨_, c, rfl⟩
/-- A piece that has no goal. -/
theorem LkI.skip {w wr : World} {B B0 g n bm nn : Nat} {pa : Option Addr} {cap : Nat} {its : List It} {A : Nat → Int} {L : Nat → Bool} {D : DataW Unit} {k : Nat} {vb : Value} {G : Nat → Value} (h : LkI w wr B B0 g n bm nn pa cap its A L D k vb G) (hk : (its.getD k it0).kind = 1 ∨ (its.getD k it0).kind = 2) (hl : (its.getD k it0).kind = 2 → (posL its (its.getD k it0).label).length = 1) : LkI w wr B B0 g n bm nn pa cap its A L D (k + 1) vb G := by
  refine { h with brs := ?_, seen := fun j hj h1 => ?_, go := fun j hj h1 h2 => ?_ }
  · rw [bsK_no (by rcases hk with hk | hk <;> omega)]; exact h.brs
  · by_cases e : j = k
    · subst e
      exact hl (by rcases hk with hk | hk; exact absurd hk h1; exact hk)
    · exact h.seen j (by omega) h1
  · by_cases e : j = k
    · subst e
      rcases hk with hk | hk
      · exact absurd hk h1
      · exact absurd hk h2
    · exact h.go j (by omega) h1 h2
/-- A goal laid. -/
theorem LkI.goal {w wr : World} {B B0 g n bm nn : Nat} {pa : Option Addr} {cap : Nat} {its : List It} {A : Nat → Int} {L : Nat → Bool} {D : DataW Unit} {k : Nat} {vb : Value} {G : Nat → Value} (h : LkI w wr B B0 g n bm nn pa cap its A L D k vb G) (hk : k < n) (hB : B ≠ g) (hm : bm ≠ g) (hb : B0 ≤ g) (hp : (posL its (its.getD k it0).label).length = 1) (u : Value) (hu : u = .pointer (some ⟨g, tgt its k * 10, none⟩)) :
    LkI w (wr.setCell ⟨g, k * 10 + 8, none⟩ u) B B0 g n bm nn pa cap its A L D k vb (upd G k u) ∧ (∀ j, j < k + 1 → (its.getD j it0).kind ≠ 1 → (posL its (its.getD j it0).label).length = 1) ∧ (∀ j, j < k + 1 → (its.getD j it0).kind ≠ 1 → (its.getD j it0).kind ≠ 2 → upd G k u j = .pointer (some ⟨g, tgt its j * 10, none⟩)) := by
  have hne : ∀ o, (⟨g, k * 10 + 8, none⟩ : Addr) ≠ ⟨B, o, none⟩ := fun o h => by simp only [Addr.mk.injEq] at h; exact hB h.1.symm
  have hgr : wr.grownBy (wr.setCell ⟨g, k * 10 + 8, none⟩ u) (some g) := by
    have hb0 := (Below.refl 0 wr).setCell (p := ⟨g, k * 10 + 8, none⟩) (Nat.zero_le _) u
    exact ⟨hb0.os, hb0.tape, hb0.output, hb0.size, fun i _ hi => Below.heap_setCell _ _ _ i (fun e => hi (by rw [e]))⟩
  refine ⟨⟨?_, ?_, ?_, h.row.goal k hk u, ?_, h.ne, h.map.kept hgr (by simpa using hm), h.seen, fun j hj h1 h2 => ?_, h.bel.setCell hb u, by simpa using h.size⟩, fun j hj h1 => ?_, fun j hj h1 h2 => ?_⟩
  · rw [World.cell?_setCell_other _ _ _ _ (hne 0)]; exact h.box
  · rw [World.cell?_setCell_other _ _ _ _ (hne 1)]; exact h.box1
  · rw [World.frozen?_setCell]; exact h.free
  · exact h.brs.kept hgr (by
      cases e : vb.ownBlock with
      | none => exact .inl rfl
      | some x => exact .inr (fun h' => (h.ne x e).1 (by injection h')))
  · rw [upd_other _ _ _ _ (by omega)]; exact h.go j hj h1 h2
  · by_cases e : j = k
    · subst e; exact hp
    · exact h.seen j (by omega) h1
  · by_cases e : j = k
    · subst e; rw [upd_same, hu]
    · rw [upd_other _ _ _ _ e]; exact h.go j (by omega) h1 h2

/-- A branch added. -/
theorem LkI.branch {w wr w1 : World} {B B0 g n bm nn : Nat} {pa : Option Addr} {cap : Nat} {its : List It} {A : Nat → Int} {L : Nat → Bool} {D : DataW Unit} {k : Nat} {vb v1 : Value} {G : Nat → Value} {o : Obj} (h : LkI w wr B B0 g n bm nn pa cap its A L D k vb G) (hk : (its.getD k it0).kind = 3) (hB : B ≠ g) (hm : bm ≠ B) (hb : B0 ≤ B) (hBs : B < wr.heap.size) (hgs : g < wr.heap.size)
    (h1 : ∀ j, j < k + 1 → (its.getD j it0).kind ≠ 1 → (posL its (its.getD j it0).label).length = 1) (h2 : ∀ j, j < k + 1 → (its.getD j it0).kind ≠ 1 → (its.getD j it0).kind ≠ 2 → G j = .pointer (some ⟨g, tgt its j * 10, none⟩))
    (ho : w1.ownsRow B0 58 1 v1 ((bsK its k).length + 1) (ptrs g (bsK its k) ++ [.pointer (some ⟨g, k * 10, none⟩)])) (hg : (wr.alloc o).grownBy w1 vb.ownBlock) (hf : ∀ x, v1.ownBlock = some x → vb.ownBlock = some x ∨ (wr.alloc o).heap.size ≤ x) :
    LkI w (w1.setCell ⟨B, 1, none⟩ v1) B B0 g n bm nn pa cap its A L D (k + 1) v1 G ∧ w1.cell? ⟨B, 1, none⟩ = some vb ∧ w1.frozen? ⟨B, 1, none⟩ = false := by
  have hmlt := h.map.lt
  have hA : ∀ x, x < wr.heap.size → (∀ y, vb.ownBlock = some y → y ≠ x) → w1.heap[x]? = wr.heap[x]? := fun x hx hy => by
    rw [hg.block x (by simp; omega) (fun e => hy x e.symm rfl)]
    exact Below.heap_alloc _ _ x hx
  have eB := hA B hBs (fun y hy => (h.ne y hy).2.1)
  have eg := hA g hgs (fun y hy => (h.ne y hy).1)
  have em := hA bm hmlt (fun y hy => (h.ne y hy).2.2)
  have hne1 : ∀ x, v1.ownBlock = some x → x ≠ g ∧ x ≠ B ∧ x ≠ bm := fun x hx => by
    rcases hf x hx with h' | h'
    · exact h.ne x h'
    · simp at h'; refine ⟨by omega, by omega, by omega⟩
  have cB : ∀ j, w1.cell? ⟨B, j, none⟩ = wr.cell? ⟨B, j, none⟩ := fun j => World.cell?_of_block (a := ⟨B, j, none⟩) eB
  have fB : ∀ j, w1.frozen? ⟨B, j, none⟩ = wr.frozen? ⟨B, j, none⟩ := fun j => World.frozen?_of_block (a := ⟨B, j, none⟩) eB
  have hgr : w1.grownBy (w1.setCell ⟨B, 1, none⟩ v1) (some B) := by
    have hb0 := (Below.refl 0 w1).setCell (p := ⟨B, 1, none⟩) (Nat.zero_le _) v1
    exact ⟨hb0.os, hb0.tape, hb0.output, hb0.size, fun i _ hi => Below.heap_setCell _ _ _ i (fun e => hi (by rw [e]))⟩
  refine ⟨⟨?_, ?_, ?_, ?_, ?_, hne1, ?_, h1, h2, ?_, ?_⟩, (cB 1).trans h.box1, (fB 1).trans h.free⟩
  · rw [World.cell?_setCell_other _ _ _ _ (by intro h; simp at h), cB]; exact h.box
  · exact World.cell?_setCell_same _ _ _ ((cB 1).trans h.box1)
  · rw [World.frozen?_setCell, fB]; exact h.free
  · intro i hi j hj
    obtain ⟨p1, p2⟩ := h.row i hi j hj
    rw [World.cell?_setCell_other _ _ _ _ (by intro h; simp only [Addr.mk.injEq] at h; exact hB h.1), World.frozen?_setCell, World.cell?_of_block (a := ⟨g, i * 10 + j, none⟩) eg, World.frozen?_of_block (a := ⟨g, i * 10 + j, none⟩) eg]
    exact ⟨p1, p2⟩
  · rw [bsK_yes hk, ptrs_snoc, List.length_append, List.length_singleton]
    exact ho.kept hgr (by
      cases e : v1.ownBlock with
      | none => exact .inl rfl
      | some x => exact .inr (fun h' => (hne1 x e).2.1 (by injection h')))
  · have : w1.ownsMap Try.prog 2 (plainElem (H := Unit) Try.prog 3) bm nn D := by
      obtain ⟨es, clock, h0, F, hs, hD⟩ := h.map
      exact ⟨es, clock, em.trans h0, F, hs, hD⟩
    exact this.kept hgr (by simpa using hm)
  · have hs := h.size
    have : Below B0 w w1 := (h.bel.alloc (Nat.le_trans hb (Nat.le_of_lt hBs)) o).grown hg (by simp; omega) (fun x hx => by
      have := (World.ownsRow.lt h.brs x hx).1
      exact this)
    exact this.setCell hb v1
  · have := hg.size
    have := h.size
    simp at *
    omega

end Go.Proofs.Ytkbonhbegpiajaa
