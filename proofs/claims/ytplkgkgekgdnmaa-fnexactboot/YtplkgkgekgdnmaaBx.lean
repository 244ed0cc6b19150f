import Derived.Test.YtplkgkgekgdnmaaLs
namespace Go.Proofs.Ytplkgkgekgdnmaa
open Go.RowKit
set_option linter.unusedVariables false
/-- The eight cells of a machine in its box. -/
structure Bx (w : World) (g : Nat) (x0 x1 x2 x3 x4 x5 x6 x7 : Value) : Prop where
  c0 : w.cell? ⟨g, 0, none⟩ = some x0
  c1 : w.cell? ⟨g, 1, none⟩ = some x1
  c2 : w.cell? ⟨g, 2, none⟩ = some x2
  c3 : w.cell? ⟨g, 3, none⟩ = some x3
  c4 : w.cell? ⟨g, 4, none⟩ = some x4
  c5 : w.cell? ⟨g, 5, none⟩ = some x5
  c6 : w.cell? ⟨g, 6, none⟩ = some x6
  c7 : w.cell? ⟨g, 7, none⟩ = some x7
  fz : ∀ j, w.frozen? ⟨g, j, none⟩ = false
theorem Bx.keep {w w' : World} {g : Nat} {x0 x1 x2 x3 x4 x5 x6 x7 : Value} (h : Bx w g x0 x1 x2 x3 x4 x5 x6 x7) (hb : w'.heap[g]? = w.heap[g]?) : Bx w' g x0 x1 x2 x3 x4 x5 x6 x7 := by
  have k := fun j => World.cell?_of_block (w := w) (w' := w') (a := ⟨g, j, none⟩) hb
  exact ⟨(k 0).trans h.c0, (k 1).trans h.c1, (k 2).trans h.c2, (k 3).trans h.c3, (k 4).trans h.c4, (k 5).trans h.c5, (k 6).trans h.c6, (k 7).trans h.c7, fun j => (World.frozen?_of_block (w := w) (a := ⟨g, j, none⟩) hb).trans (h.fz j)⟩
theorem Bx.lt {w : World} {g : Nat} {x0 x1 x2 x3 x4 x5 x6 x7 : Value} (h : Bx w g x0 x1 x2 x3 x4 x5 x6 x7) : g < w.heap.size := World.block_lt_of_cell? _ _ h.c0
theorem Bx.below {w w' : World} {g : Nat} {x0 x1 x2 x3 x4 x5 x6 x7 : Value} (h : Bx w g x0 x1 x2 x3 x4 x5 x6 x7) (hb : Below w.heap.size w w') : Bx w' g x0 x1 x2 x3 x4 x5 x6 x7 := h.keep (hb.block g h.lt)
theorem Bx.of_heap {w : World} {g : Nat} {t : TypeId} {x0 x1 x2 x3 x4 x5 x6 x7 : Value} (h : w.heap[g]? = some (.cells #[x0, x1, x2, x3, x4, x5, x6, x7] t)) : Bx w g x0 x1 x2 x3 x4 x5 x6 x7 := by
  constructor
  all_goals first | (simp [World.cell?, h]; done) | (intro j; simp [World.frozen?, h])
theorem Bx.other {w : World} {g : Nat} {x0 x1 x2 x3 x4 x5 x6 x7 : Value} (h : Bx w g x0 x1 x2 x3 x4 x5 x6 x7) {p : Addr} (hp : g ≠ p.block) (u : Value) : Bx (w.setCell p u) g x0 x1 x2 x3 x4 x5 x6 x7 := h.keep (Below.heap_setCell w p u g hp)
theorem Bx.alloc {w : World} {g : Nat} {x0 x1 x2 x3 x4 x5 x6 x7 : Value} (h : Bx w g x0 x1 x2 x3 x4 x5 x6 x7) (ob : Obj) : Bx (w.alloc ob) g x0 x1 x2 x3 x4 x5 x6 x7 := h.keep (Below.heap_alloc w ob g h.lt)
theorem Bx.drewN {w : World} {g : Nat} {x0 x1 x2 x3 x4 x5 x6 x7 : Value} (h : Bx w g x0 x1 x2 x3 x4 x5 x6 x7) (n : Nat) : Bx (w.drewN n) g x0 x1 x2 x3 x4 x5 x6 x7 := h.keep rfl
theorem ne_off {g i j : Nat} (h : i ≠ j) : (⟨g, i, none⟩ : Addr) ≠ ⟨g, j, none⟩ := fun e => by simp only [Addr.mk.injEq] at e; exact h e.2.1
theorem Bx.s0 {w : World} {g : Nat} {x0 x1 x2 x3 x4 x5 x6 x7 : Value} (h : Bx w g x0 x1 x2 x3 x4 x5 x6 x7) (v : Value) : Bx (w.setCell ⟨g, 0, none⟩ v) g v x1 x2 x3 x4 x5 x6 x7 :=
  ⟨World.cell?_setCell_same _ _ _ h.c0, (World.cell?_setCell_other _ _ _ _ (ne_off (by decide))).trans h.c1, (World.cell?_setCell_other _ _ _ _ (ne_off (by decide))).trans h.c2, (World.cell?_setCell_other _ _ _ _ (ne_off (by decide))).trans h.c3, (World.cell?_setCell_other _ _ _ _ (ne_off (by decide))).trans h.c4, (World.cell?_setCell_other _ _ _ _ (ne_off (by decide))).trans h.c5, (World.cell?_setCell_other _ _ _ _ (ne_off (by decide))).trans h.c6, (World.cell?_setCell_other _ _ _ _ (ne_off (by decide))).trans h.c7, fun j => by simpa using h.fz j⟩
theorem Bx.s1 {w : World} {g : Nat} {x0 x1 x2 x3 x4 x5 x6 x7 : Value} (h : Bx w g x0 x1 x2 x3 x4 x5 x6 x7) (v : Value) : Bx (w.setCell ⟨g, 1, none⟩ v) g x0 v x2 x3 x4 x5 x6 x7 :=
  ⟨(World.cell?_setCell_other _ _ _ _ (ne_off (by decide))).trans h.c0, World.cell?_setCell_same _ _ _ h.c1, (World.cell?_setCell_other _ _ _ _ (ne_off (by decide))).trans h.c2, (World.cell?_setCell_other _ _ _ _ (ne_off (by decide))).trans h.c3, (World.cell?_setCell_other _ _ _ _ (ne_off (by decide))).trans h.c4, (World.cell?_setCell_other _ _ _ _ (ne_off (by decide))).trans h.c5, (World.cell?_setCell_other _ _ _ _ (ne_off (by decide))).trans h.c6, (World.cell?_setCell_other _ _ _ _ (ne_off (by decide))).trans h.c7, fun j => by simpa using h.fz j⟩
theorem Bx.s2 {w : World} {g : Nat} {x0 x1 x2 x3 x4 x5 x6 x7 : Value} (h : Bx w g x0 x1 x2 x3 x4 x5 x6 x7) (v : Value) : Bx (w.setCell ⟨g, 2, none⟩ v) g x0 x1 v x3 x4 x5 x6 x7 :=
  ⟨(World.cell?_setCell_other _ _ _ _ (ne_off (by decide))).trans h.c0, (World.cell?_setCell_other _ _ _ _ (ne_off (by decide))).trans h.c1, World.cell?_setCell_same _ _ _ h.c2, (World.cell?_setCell_other _ _ _ _ (ne_off (by decide))).trans h.c3, (World.cell?_setCell_other _ _ _ _ (ne_off (by decide))).trans h.c4, (World.cell?_setCell_other _ _ _ _ (ne_off (by decide))).trans h.c5, (World.cell?_setCell_other _ _ _ _ (ne_off (by decide))).trans h.c6, (World.cell?_setCell_other _ _ _ _ (ne_off (by decide))).trans h.c7, fun j => by simpa using h.fz j⟩
theorem Bx.s3 {w : World} {g : Nat} {x0 x1 x2 x3 x4 x5 x6 x7 : Value} (h : Bx w g x0 x1 x2 x3 x4 x5 x6 x7) (v : Value) : Bx (w.setCell ⟨g, 3, none⟩ v) g x0 x1 x2 v x4 x5 x6 x7 :=
  ⟨(World.cell?_setCell_other _ _ _ _ (ne_off (by decide))).trans h.c0, (World.cell?_setCell_other _ _ _ _ (ne_off (by decide))).trans h.c1, (World.cell?_setCell_other _ _ _ _ (ne_off (by decide))).trans h.c2, World.cell?_setCell_same _ _ _ h.c3, (World.cell?_setCell_other _ _ _ _ (ne_off (by decide))).trans h.c4, (World.cell?_setCell_other _ _ _ _ (ne_off (by decide))).trans h.c5, (World.cell?_setCell_other _ _ _ _ (ne_off (by decide))).trans h.c6, (World.cell?_setCell_other _ _ _ _ (ne_off (by decide))).trans h.c7, fun j => by simpa using h.fz j⟩
theorem Bx.s4 {w : World} {g : Nat} {x0 x1 x2 x3 x4 x5 x6 x7 : Value} (h : Bx w g x0 x1 x2 x3 x4 x5 x6 x7) (v : Value) : Bx (w.setCell ⟨g, 4, none⟩ v) g x0 x1 x2 x3 v x5 x6 x7 :=
  ⟨(World.cell?_setCell_other _ _ _ _ (ne_off (by decide))).trans h.c0, (World.cell?_setCell_other _ _ _ _ (ne_off (by decide))).trans h.c1, (World.cell?_setCell_other _ _ _ _ (ne_off (by decide))).trans h.c2, (World.cell?_setCell_other _ _ _ _ (ne_off (by decide))).trans h.c3, World.cell?_setCell_same _ _ _ h.c4, (World.cell?_setCell_other _ _ _ _ (ne_off (by decide))).trans h.c5, (World.cell?_setCell_other _ _ _ _ (ne_off (by decide))).trans h.c6, (World.cell?_setCell_other _ _ _ _ (ne_off (by decide))).trans h.c7, fun j => by simpa using h.fz j⟩
theorem Bx.s5 {w : World} {g : Nat} {x0 x1 x2 x3 x4 x5 x6 x7 : Value} (h : Bx w g x0 x1 x2 x3 x4 x5 x6 x7) (v : Value) : Bx (w.setCell ⟨g, 5, none⟩ v) g x0 x1 x2 x3 x4 v x6 x7 :=
  ⟨(World.cell?_setCell_other _ _ _ _ (ne_off (by decide))).trans h.c0, (World.cell?_setCell_other _ _ _ _ (ne_off (by decide))).trans h.c1, (World.cell?_setCell_other _ _ _ _ (ne_off (by decide))).trans h.c2, (World.cell?_setCell_other _ _ _ _ (ne_off (by decide))).trans h.c3, (World.cell?_setCell_other _ _ _ _ (ne_off (by decide))).trans h.c4, World.cell?_setCell_same _ _ _ h.c5, (World.cell?_setCell_other _ _ _ _ (ne_off (by decide))).trans h.c6, (World.cell?_setCell_other _ _ _ _ (ne_off (by decide))).trans h.c7, fun j => by simpa using h.fz j⟩
theorem Bx.s6 {w : World} {g : Nat} {x0 x1 x2 x3 x4 x5 x6 x7 : Value} (h : Bx w g x0 x1 x2 x3 x4 x5 x6 x7) (v : Value) : Bx (w.setCell ⟨g, 6, none⟩ v) g x0 x1 x2 x3 x4 x5 v x7 :=
  ⟨(World.cell?_setCell_other _ _ _ _ (ne_off (by decide))).trans h.c0, (World.cell?_setCell_other _ _ _ _ (ne_off (by decide))).trans h.c1, (World.cell?_setCell_other _ _ _ _ (ne_off (by decide))).trans h.c2, (World.cell?_setCell_other _ _ _ _ (ne_off (by decide))).trans h.c3, (World.cell?_setCell_other _ _ _ _ (ne_off (by decide))).trans h.c4, (World.cell?_setCell_other _ _ _ _ (ne_off (by decide))).trans h.c5, World.cell?_setCell_same _ _ _ h.c6, (World.cell?_setCell_other _ _ _ _ (ne_off (by decide))).trans h.c7, fun j => by simpa using h.fz j⟩
theorem Bx.s7 {w : World} {g : Nat} {x0 x1 x2 x3 x4 x5 x6 x7 : Value} (h : Bx w g x0 x1 x2 x3 x4 x5 x6 x7) (v : Value) : Bx (w.setCell ⟨g, 7, none⟩ v) g x0 x1 x2 x3 x4 x5 x6 v :=
  ⟨(World.cell?_setCell_other _ _ _ _ (ne_off (by decide))).trans h.c0, (World.cell?_setCell_other _ _ _ _ (ne_off (by decide))).trans h.c1, (World.cell?_setCell_other _ _ _ _ (ne_off (by decide))).trans h.c2, (World.cell?_setCell_other _ _ _ _ (ne_off (by decide))).trans h.c3, (World.cell?_setCell_other _ _ _ _ (ne_off (by decide))).trans h.c4, (World.cell?_setCell_other _ _ _ _ (ne_off (by decide))).trans h.c5, (World.cell?_setCell_other _ _ _ _ (ne_off (by decide))).trans h.c6, World.cell?_setCell_same _ _ _ h.c7, fun j => by simpa using h.fz j⟩
theorem Bx.set8 {w : World} {g : Nat} {x0 x1 x2 x3 x4 x5 x6 x7 : Value} (h : Bx w g x0 x1 x2 x3 x4 x5 x6 x7) (y0 y1 y2 y3 y4 y5 y6 y7 : Value) : Bx ((((((((w.setCell ⟨g, 0, none⟩ y0).setCell ⟨g, 1, none⟩ y1).setCell ⟨g, 2, none⟩ y2).setCell ⟨g, 3, none⟩ y3).setCell ⟨g, 4, none⟩ y4).setCell ⟨g, 5, none⟩ y5).setCell ⟨g, 6, none⟩ y6).setCell ⟨g, 7, none⟩ y7) g y0 y1 y2 y3 y4 y5 y6 y7 :=
  ((((((((h.s0 y0).s1 y1).s2 y2).s3 y3).s4 y4).s5 y5).s6 y6).s7 y7)
theorem Tcs.set8 {S : Nat → Prop} {a w : World} (h : Tcs S a w) (g : Nat) (hg : S g) (x0 x1 x2 x3 x4 x5 x6 x7 : Value) :
    Tcs S a ((((((((w.setCell ⟨g, 0, none⟩ x0).setCell ⟨g, 1, none⟩ x1).setCell ⟨g, 2, none⟩ x2).setCell ⟨g, 3, none⟩ x3).setCell ⟨g, 4, none⟩ x4).setCell ⟨g, 5, none⟩ x5).setCell ⟨g, 6, none⟩ x6).setCell ⟨g, 7, none⟩ x7) :=
  (((((((h.setCell hg _).setCell hg _).setCell hg _).setCell hg _).setCell hg _).setCell hg _).setCell hg _).setCell hg _
theorem Tcs.new8 {S : Nat → Prop} {a w : World} (h : Tcs S a w) (g : Nat) (hg : a.heap.size ≤ g) (x0 x1 x2 x3 x4 x5 x6 x7 : Value) :
    Tcs S a ((((((((w.setCell ⟨g, 0, none⟩ x0).setCell ⟨g, 1, none⟩ x1).setCell ⟨g, 2, none⟩ x2).setCell ⟨g, 3, none⟩ x3).setCell ⟨g, 4, none⟩ x4).setCell ⟨g, 5, none⟩ x5).setCell ⟨g, 6, none⟩ x6).setCell ⟨g, 7, none⟩ x7) :=
  (((((((h.setNew hg _).setNew hg _).setNew hg _).setNew hg _).setNew hg _).setNew hg _).setNew hg _).setNew hg _
theorem Tcs.grown {S : Nat → Prop} {a w w' : World} {row : Option Nat} (h : Tcs S a w) (hg : w.grownBy w' row) (hr : ∀ k, row = some k → a.heap.size ≤ k ∨ S k) : Tcs S a w' :=
  ⟨hg.os.trans h.os, hg.tape.trans h.tape, hg.output.trans h.output, Nat.le_trans h.size hg.size, fun k hk hn => (hg.block k (Nat.lt_of_lt_of_le hk h.size) (fun e => by rcases hr k e.symm with h1 | h1; omega; exact hn h1)).trans (h.block k hk hn)⟩
/-- Nothing but new blocks: as 'Below' has it. -/
theorem Tcs.is_below {a w : World} (h : Tcs (fun _ => False) a w) : Below a.heap.size a w := ⟨h.os, h.tape, h.output, h.size, fun k hk => h.block k hk (fun f => f)⟩
theorem Below.tcs {a w : World} {S : Nat → Prop} (h : Below a.heap.size a w) : Tcs S a w := ⟨h.os, h.tape, h.output, h.size, fun k hk _ => h.block k hk⟩
end Go.Proofs.Ytplkgkgekgdnmaa
