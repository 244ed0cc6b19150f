import Derived.Test.YtggffidnhkpelaaGreatDoorPVM
import Derived.Test.YtggffidnhkpelaaGreatDoorPX0
namespace Go.Proofs.YtggffidnhkpelaaGreatDoor
open Go.RowKit
set_option linter.unusedVariables false
set_option linter.unusedSimpArgs false

/-- Rows of the blocks from B to T may have turned in their numbers and texts; the slices in them stand. -/
structure Sh (B T : Nat) (w w' : World) : Prop where
  os : w'.os = w.os
  tape : w'.tape = w.tape
  output : w'.output = w.output
  size : w.heap.size ≤ w'.heap.size
  block : ∀ k, k < w.heap.size → w'.heap[k]? = w.heap[k]? ∨ (B ≤ k ∧ k < T ∧ ∃ cur cur' t, w.heap[k]? = some (.cells cur t (0, 0)) ∧ w'.heap[k]? = some (.cells cur' t (0, 0)) ∧ cur'.size = cur.size ∧ ∀ (i : Nat) (a : Option Addr) (n c : Nat), cur'[i]? = some (.slice a n c) ↔ cur[i]? = some (.slice a n c))
theorem Sh.refl (B T : Nat) (w : World) : Sh B T w w := ⟨rfl, rfl, rfl, Nat.le_refl _, fun _ _ => .inl rfl⟩
theorem Sh.trans {B T : Nat} {w1 w2 w3 : World} (h : Sh B T w1 w2) (k : Sh B T w2 w3) : Sh B T w1 w3 := by
  refine ⟨k.os.trans h.os, k.tape.trans h.tape, k.output.trans h.output, Nat.le_trans h.size k.size, fun i hi => ?_⟩
  rcases h.block i hi with h1 | ⟨b1, t1, c1, c2, t, e1, e2, s1, m1⟩
  · rcases k.block i (by have := h.size; omega) with h2 | ⟨b2, t2, d1, d2, u, f1, f2, s2, m2⟩
    · exact .inl (h2.trans h1)
    · exact .inr ⟨b2, t2, d1, d2, u, h1.symm.trans f1, f2, s2, m2⟩
  · rcases k.block i (by have := h.size; omega) with h2 | ⟨b2, t2, d1, d2, u, f1, f2, s2, m2⟩
    · exact .inr ⟨b1, t1, c1, c2, t, e1, h2.trans e2, s1, m1⟩
    · rw [e2] at f1
      injection f1 with f1
      injection f1 with f1 f1' _
      subst f1
      subst f1'
      exact .inr ⟨b1, t1, c1, d2, t, e1, f2, s2.trans s1, fun i a n c => (m2 i a n c).trans (m1 i a n c)⟩
theorem Sh.of_below {B T : Nat} {w w' : World} (h : Below w.heap.size w w') : Sh B T w w' := ⟨h.os, h.tape, h.output, h.size, fun k hk => .inl (h.block k hk)⟩
theorem Sh.below {B T : Nat} {w w' : World} (h : Sh B T w w') (hB : B ≤ w.heap.size) : Below B w w' := by
  refine ⟨h.os, h.tape, h.output, h.size, fun k hk => ?_⟩
  rcases h.block k (by omega) with h1 | ⟨b1, _⟩
  · exact h1
  · omega
theorem Sh.keep {B T : Nat} {w w' : World} (h : Sh B T w w') : Keep T w w' := by
  intro k hk hl
  rcases h.block k hl with h1 | ⟨_, b2, _⟩
  · exact h1
  · omega
def plainV (v : Value) : Prop := ∀ a n c, v ≠ .slice a n c
theorem Sh.set {B T : Nat} {w : World} {g i : Nat} {cur : Array Value} {t : TypeId} {u v : Value} (hg : w.heap[g]? = some (.cells cur t (0, 0))) (hB : B ≤ g) (hT : g < T) (hv : cur[i]? = some v) (pv : plainV v) (pu : plainV u) : Sh B T w (w.setCell ⟨g, i, none⟩ u) := by
  refine ⟨rfl, rfl, rfl, by simp, fun k hk => ?_⟩
  by_cases e : k = g
  · subst e
    refine .inr ⟨hB, hT, cur, cur.setIfInBounds i u, t, hg, heap_setCell_same w k i cur t u hg, by simp, fun j a n c => ?_⟩
    have hi : i < cur.size := (Array.getElem?_eq_some_iff.1 hv).1
    rw [Array.getElem?_setIfInBounds]
    by_cases ej : i = j
    · subst ej
      rw [if_pos rfl, if_pos hi, hv]
      constructor
      · intro h; exact absurd (Option.some.inj h) (pu a n c)
      · intro h; exact absurd (Option.some.inj h) (pv a n c)
    · rw [if_neg ej]
  · exact .inl (Below.heap_setCell w ⟨g, i, none⟩ u k e)

/-- A row of m cells an element in a block from B to T. -/
def RowM (B T : Nat) (t m : Nat) (w : World) (v : Value) (n : Nat) (C : Array Value → Prop) : Prop := ∃ g cur, v = .slice (some ⟨g, 0, none⟩) n n ∧ B ≤ g ∧ g < T ∧ w.heap[g]? = some (.cells cur t (0, 0)) ∧ cur.size = n * m ∧ C cur
def plainAll (cur : Array Value) : Prop := ∀ (i : Nat) (v : Value), cur[i]? = some v → plainV v
theorem RowM.sh {B T t m n : Nat} {w w' : World} {v : Value} {C : Array Value → Prop} (h : RowM B T t m w v n C) (s : Sh B T w w') (hC : ∀ cur cur' : Array Value, cur'.size = cur.size → (∀ (i : Nat) (a : Option Addr) (n c : Nat), cur'[i]? = some (.slice a n c) ↔ cur[i]? = some (.slice a n c)) → C cur → C cur') : RowM B T t m w' v n C := by
  obtain ⟨g, cur, rfl, hB, hT, hg, hz, hc⟩ := h
  have hlt := (Array.getElem?_eq_some_iff.1 hg).1
  rcases s.block g hlt with h1 | ⟨_, _, c1, c2, u, e1, e2, s1, m1⟩
  · exact ⟨g, cur, rfl, hB, hT, h1.trans hg, hz, hc⟩
  · rw [hg] at e1
    injection e1 with e1
    injection e1 with e1 e1' _
    subst e1
    subst e1'
    exact ⟨g, c2, rfl, hB, hT, e2, s1.trans hz, hC _ _ s1 m1 hc⟩
theorem plainAll_sh (cur cur' : Array Value) (hs : cur'.size = cur.size) (h : ∀ (i : Nat) (a : Option Addr) (n c : Nat), cur'[i]? = some (.slice a n c) ↔ cur[i]? = some (.slice a n c)) (hp : plainAll cur) : plainAll cur' := by
  intro i v hv a n c e
  subst e
  exact hp i _ ((h i a n c).1 hv) a n c rfl
def PlainM (B T : Nat) (t m : Nat) (w : World) (v : Value) (n : Nat) : Prop := RowM B T t m w v n plainAll
theorem PlainM.sh {B T t m n : Nat} {w w' : World} {v : Value} (h : PlainM B T t m w v n) (s : Sh B T w w') : PlainM B T t m w' v n := RowM.sh h s plainAll_sh
theorem rowm_cell {w : World} {g i : Nat} {cur : Array Value} {t : TypeId} (hg : w.heap[g]? = some (.cells cur t (0, 0))) (hi : i < cur.size) : w.cell? ⟨g, i, none⟩ = some cur[i] ∧ w.frozen? ⟨g, i, none⟩ = false := by
  refine ⟨?_, frozen_of_row w g i cur t hg⟩
  rw [cell_of_row w g i cur t (0, 0) hg]
  simp [hi]
theorem plain_int (k : IntKind) (n : Int) : plainV (.int k n) := fun _ _ _ h => by cases h
theorem plain_str (s : ByteArray) : plainV (.string s) := fun _ _ _ h => by cases h
/-- One cell of such a row marked. -/
theorem PlainM.set {B T t m n : Nat} {w : World} {g i : Nat} {u : Value} (h : PlainM B T t m w (.slice (some ⟨g, 0, none⟩) n n) n) (hi : i < n * m) (pu : plainV u) : Sh B T w (w.setCell ⟨g, i, none⟩ u) := by
  obtain ⟨g', cur, he, hB, hT, hg, hz, hc⟩ := h
  simp only [Value.slice.injEq, Option.some.injEq, Addr.mk.injEq, and_true, true_and] at he
  subst he
  exact Sh.set hg hB hT (v := cur[i]'(by omega)) (by simp) (hc i _ (by simp)) pu
theorem PlainM.old {B T t m n : Nat} {w : World} {g i : Nat} (h : PlainM B T t m w (.slice (some ⟨g, 0, none⟩) n n) n) (hi : i < n * m) : (∃ y, w.cell? ⟨g, i, none⟩ = some y) ∧ w.frozen? ⟨g, i, none⟩ = false := by
  obtain ⟨g', cur, he, hB, hT, hg, hz, hc⟩ := h
  simp only [Value.slice.injEq, Option.some.injEq, Addr.mk.injEq, and_true, true_and] at he
  subst he
  have := rowm_cell (i := i) hg (by omega)
  exact ⟨⟨_, this.1⟩, this.2⟩

/-- Statements whose rows may be marked: their lengths alone are told. -/
def StmtsM (B T : Nat) (w : World) (v : Value) (ss : List St) : Prop := ∃ g cur, v = .slice (some ⟨g, 0, none⟩) ss.length ss.length ∧ B ≤ g ∧ g < T ∧ w.heap[g]? = some (.cells cur 69 (0, 0)) ∧ cur.size = ss.length * 6 ∧
  ∀ j (h : j < ss.length), (∃ ve vf, cur[j * 6 + 2]? = some ve ∧ cur[j * 6 + 3]? = some vf ∧ PlainM B T 71 3 w ve ss[j].e.length ∧ PlainM B T 71 3 w vf ss[j].f.length) ∧
    ∀ i, i = 0 ∨ i = 1 ∨ i = 4 ∨ i = 5 → ∀ v, cur[j * 6 + i]? = some v → plainV v
def FuncsM (B T : Nat) (w : World) (v : Value) (fs : List Fu) : Prop := ∃ g cur, v = .slice (some ⟨g, 0, none⟩) fs.length fs.length ∧ B ≤ g ∧ g < T ∧ w.heap[g]? = some (.cells cur 49 (0, 0)) ∧ cur.size = fs.length * 3 ∧
  ∀ j (h : j < fs.length), (∃ vp vb, cur[j * 3 + 1]? = some vp ∧ cur[j * 3 + 2]? = some vb ∧ PlainM B T 9 1 w vp fs[j].params.length ∧ StmtsM B T w vb fs[j].body) ∧ ∀ v, cur[j * 3]? = some v → plainV v
theorem slice_kept {cur cur' : Array Value} (m1 : ∀ (i : Nat) (a : Option Addr) (n c : Nat), cur'[i]? = some (.slice a n c) ↔ cur[i]? = some (.slice a n c)) {i : Nat} {v : Value} (h : cur[i]? = some v) (hv : ∃ a n c, v = .slice a n c) : cur'[i]? = some v := by
  obtain ⟨a, n, c, rfl⟩ := hv
  exact (m1 i a n c).2 h
theorem plain_kept {cur cur' : Array Value} (hs : cur'.size = cur.size) (m1 : ∀ (i : Nat) (a : Option Addr) (n c : Nat), cur'[i]? = some (.slice a n c) ↔ cur[i]? = some (.slice a n c)) {i : Nat} (h : ∀ v, cur[i]? = some v → plainV v) : ∀ v, cur'[i]? = some v → plainV v := by
  intro v hv a n c e
  subst e
  exact h _ ((m1 i a n c).1 hv) a n c rfl
theorem PlainM.isSlice {B T t m n : Nat} {w : World} {v : Value} (h : PlainM B T t m w v n) : ∃ a n c, v = .slice a n c := by
  obtain ⟨g, cur, rfl, _⟩ := h
  exact ⟨_, _, _, rfl⟩
theorem StmtsM.isSlice {B T : Nat} {w : World} {v : Value} {ss : List St} (h : StmtsM B T w v ss) : ∃ a n c, v = .slice a n c := by
  obtain ⟨g, cur, rfl, _⟩ := h
  exact ⟨_, _, _, rfl⟩
theorem StmtsM.sh {B T : Nat} {w w' : World} {v : Value} {ss : List St} (h : StmtsM B T w v ss) (s : Sh B T w w') : StmtsM B T w' v ss := by
  obtain ⟨g, cur, rfl, hB, hT, hg, hz, hc⟩ := h
  have hlt := (Array.getElem?_eq_some_iff.1 hg).1
  rcases s.block g hlt with h1 | ⟨_, _, c1, c2, u, e1, e2, s1, m1⟩
  · refine ⟨g, cur, rfl, hB, hT, h1.trans hg, hz, fun j hj => ?_⟩
    obtain ⟨⟨ve, vf, k2, k3, p2, p3⟩, hp⟩ := hc j hj
    exact ⟨⟨ve, vf, k2, k3, p2.sh s, p3.sh s⟩, hp⟩
  · rw [hg] at e1
    injection e1 with e1
    injection e1 with e1 e1' _
    subst e1
    subst e1'
    refine ⟨g, c2, rfl, hB, hT, e2, s1.trans hz, fun j hj => ?_⟩
    obtain ⟨⟨ve, vf, k2, k3, p2, p3⟩, hp⟩ := hc j hj
    exact ⟨⟨ve, vf, slice_kept m1 k2 p2.isSlice, slice_kept m1 k3 p3.isSlice, p2.sh s, p3.sh s⟩, fun i hi => plain_kept s1 m1 (hp i hi)⟩
theorem FuncsM.sh {B T : Nat} {w w' : World} {v : Value} {fs : List Fu} (h : FuncsM B T w v fs) (s : Sh B T w w') : FuncsM B T w' v fs := by
  obtain ⟨g, cur, rfl, hB, hT, hg, hz, hc⟩ := h
  have hlt := (Array.getElem?_eq_some_iff.1 hg).1
  rcases s.block g hlt with h1 | ⟨_, _, c1, c2, u, e1, e2, s1, m1⟩
  · refine ⟨g, cur, rfl, hB, hT, h1.trans hg, hz, fun j hj => ?_⟩
    obtain ⟨⟨ve, vf, k2, k3, p2, p3⟩, hp⟩ := hc j hj
    exact ⟨⟨ve, vf, k2, k3, p2.sh s, p3.sh s⟩, hp⟩
  · rw [hg] at e1
    injection e1 with e1
    injection e1 with e1 e1' _
    subst e1
    subst e1'
    refine ⟨g, c2, rfl, hB, hT, e2, s1.trans hz, fun j hj => ?_⟩
    obtain ⟨⟨ve, vf, k2, k3, p2, p3⟩, hp⟩ := hc j hj
    exact ⟨⟨ve, vf, slice_kept m1 k2 p2.isSlice, slice_kept m1 k3 p3.isSlice, p2.sh s, p3.sh s⟩, plain_kept s1 m1 hp⟩
/-- What the walk reads at statement j. -/
theorem StmtsM.at {B T : Nat} {w : World} {g : Nat} {ss : List St} (h : StmtsM B T w (.slice (some ⟨g, 0, none⟩) ss.length ss.length) ss) (j : Nat) (hj : j < ss.length) :
    ∃ ve vf, w.cell? ⟨g, j * 6 + 2, none⟩ = some ve ∧ w.cell? ⟨g, j * 6 + 3, none⟩ = some vf ∧ PlainM B T 71 3 w ve ss[j].e.length ∧ PlainM B T 71 3 w vf ss[j].f.length ∧
      ∀ i, i = 0 ∨ i = 1 ∨ i = 4 ∨ i = 5 → (∃ y, w.cell? ⟨g, j * 6 + i, none⟩ = some y) ∧ w.frozen? ⟨g, j * 6 + i, none⟩ = false ∧ ∀ u, plainV u → Sh B T w (w.setCell ⟨g, j * 6 + i, none⟩ u) := by
  obtain ⟨g', cur, he, hB, hT, hg, hz, hc⟩ := h
  simp only [Value.slice.injEq, Option.some.injEq, Addr.mk.injEq, and_true, true_and] at he
  subst he
  obtain ⟨⟨ve, vf, k2, k3, p2, p3⟩, hp⟩ := hc j hj
  refine ⟨ve, vf, ?_, ?_, p2, p3, fun i hi => ?_⟩
  · rw [cell_of_row w g _ cur _ (0, 0) hg]; exact k2
  · rw [cell_of_row w g _ cur _ (0, 0) hg]; exact k3
  · have hlt : j * 6 + i < cur.size := by omega
    have := rowm_cell hg hlt
    exact ⟨⟨_, this.1⟩, this.2, fun u pu => Sh.set hg hB hT (v := cur[j * 6 + i]) (by simp [hlt]) (hp i hi _ (by simp [hlt])) pu⟩
theorem FuncsM.at {B T : Nat} {w : World} {g : Nat} {fs : List Fu} (h : FuncsM B T w (.slice (some ⟨g, 0, none⟩) fs.length fs.length) fs) (j : Nat) (hj : j < fs.length) :
    ∃ vp vb, w.cell? ⟨g, j * 3 + 1, none⟩ = some vp ∧ w.cell? ⟨g, j * 3 + 2, none⟩ = some vb ∧ PlainM B T 9 1 w vp fs[j].params.length ∧ StmtsM B T w vb fs[j].body ∧
      (∃ y, w.cell? ⟨g, j * 3, none⟩ = some y) ∧ w.frozen? ⟨g, j * 3, none⟩ = false ∧ ∀ u, plainV u → Sh B T w (w.setCell ⟨g, j * 3, none⟩ u) := by
  obtain ⟨g', cur, he, hB, hT, hg, hz, hc⟩ := h
  simp only [Value.slice.injEq, Option.some.injEq, Addr.mk.injEq, and_true, true_and] at he
  subst he
  obtain ⟨⟨ve, vf, k2, k3, p2, p3⟩, hp⟩ := hc j hj
  have hlt : j * 3 < cur.size := by omega
  have := rowm_cell hg hlt
  refine ⟨ve, vf, ?_, ?_, p2, p3, ⟨_, this.1⟩, this.2, fun u pu => Sh.set hg hB hT (v := cur[j * 3]) (by simp [hlt]) (hp _ (by simp [hlt])) pu⟩
  · rw [cell_of_row w g _ cur _ (0, 0) hg]; exact k2
  · rw [cell_of_row w g _ cur _ (0, 0) hg]; exact k3

end Go.Proofs.YtggffidnhkpelaaGreatDoor
