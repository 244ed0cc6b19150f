import Derived.Test.YtffihdllalnncaaM46
namespace Go.Proofs.Ytffihdllalnncaa
open Go.RowKit
set_option linter.unusedVariables false
set_option linter.unusedSimpArgs false
/-- An image under way in box bm: its three cells, the row of its words, the box R of the result. -/
structure Im (R bm : Nat) (d b : Int) (v : Value) (zs : List Int) (W : World) : Prop where
  le : R < bm
  lt : bm < W.heap.size
  c0 : W.cell? ⟨bm, 0, none⟩ = some v
  c1 : W.cell? ⟨bm, 1, none⟩ = some (.int .i64 d)
  c2 : W.cell? ⟨bm, 2, none⟩ = some (.int .i64 b)
  fz : ∀ j, W.frozen? ⟨bm, j, none⟩ = false
  r0 : ∃ u, W.cell? ⟨R, 0, none⟩ = some u
  r1 : ∃ u, W.cell? ⟨R, 1, none⟩ = some u
  r2 : ∃ u, W.cell? ⟨R, 2, none⟩ = some u
  rf : ∀ j, W.frozen? ⟨R, j, none⟩ = false
  own : W.ownsRow (bm + 1) 30 1 v zs.length (zs.map (Value.int .u32))
  bd : ∀ j, j < zs.length → 0 ≤ zs.getD j 0 ∧ zs.getD j 0 ≤ 4294967295
/-- Worlds that are the same in the blocks from R on, up to M. -/
structure Sm (R M : Nat) (W W' : World) : Prop where
  os : W'.os = W.os
  tape : W'.tape = W.tape
  output : W'.output = W.output
  size : W.heap.size ≤ W'.heap.size
  block : ∀ k, R ≤ k → k < M → W'.heap[k]? = W.heap[k]?
theorem Im.sm {R bm : Nat} {d b : Int} {v : Value} {zs : List Int} {W W' : World} (h : Im R bm d b v zs W) (hs : Sm R W.heap.size W W') : Im R bm d b v zs W' := by
  have e : ∀ q j, R ≤ q → q < W.heap.size → W'.cell? ⟨q, j, none⟩ = W.cell? ⟨q, j, none⟩ := fun q j h1 h2 => World.cell?_of_block (hs.block q h1 h2)
  have f : ∀ q j, R ≤ q → q < W.heap.size → W'.frozen? ⟨q, j, none⟩ = W.frozen? ⟨q, j, none⟩ := fun q j h1 h2 => World.frozen?_of_block (hs.block q h1 h2)
  have l1 := h.le
  have l2 := h.lt
  have hsz := hs.size
  have T : Tcs (fun k => k < R) W W' := ⟨hs.os, hs.tape, hs.output, hs.size, fun k hk hn => hs.block k (by omega) hk⟩
  refine ⟨l1, by omega, (e bm 0 (by omega) l2).trans h.c0, (e bm 1 (by omega) l2).trans h.c1, (e bm 2 (by omega) l2).trans h.c2, fun j => (f bm j (by omega) l2).trans (h.fz j), ?_, ?_, ?_, fun j => (f R j (Nat.le_refl _) (by omega)).trans (h.rf j), own_tcs h.own T (fun k hk e => by have := (own_obk h.own).2 k hk; omega), h.bd⟩
  · obtain ⟨u, hu⟩ := h.r0
    exact ⟨u, (e R 0 (Nat.le_refl _) (by omega)).trans hu⟩
  · obtain ⟨u, hu⟩ := h.r1
    exact ⟨u, (e R 1 (Nat.le_refl _) (by omega)).trans hu⟩
  · obtain ⟨u, hu⟩ := h.r2
    exact ⟨u, (e R 2 (Nat.le_refl _) (by omega)).trans hu⟩
theorem Sm.refl (R M : Nat) (W : World) : Sm R M W W := ⟨rfl, rfl, rfl, Nat.le_refl _, fun _ _ _ => rfl⟩
theorem Sm.tch {R M g : Nat} {W W' W'' : World} (h : Sm R M W W') (ht : Tch g W' W'') (hg : g < R) (hM : M ≤ W.heap.size) : Sm R M W W'' :=
  ⟨ht.os.trans h.os, ht.tape.trans h.tape, ht.output.trans h.output, Nat.le_trans h.size ht.size, fun k h1 h2 => (ht.block k (by have := h.size; omega) (by omega)).trans (h.block k h1 h2)⟩
theorem Sm.below {R M B : Nat} {W W' W'' : World} (h : Sm R M W W') (ht : Below B W' W'') (hM : M ≤ B) : Sm R M W W'' :=
  ⟨ht.os.trans h.os, ht.tape.trans h.tape, ht.output.trans h.output, Nat.le_trans h.size ht.size, fun k h1 h2 => (ht.block k (by omega)).trans (h.block k h1 h2)⟩
theorem Sm.alloc {R M : Nat} {W W' : World} (h : Sm R M W W') (hM : M ≤ W.heap.size) (o : Obj) : Sm R M W (W'.alloc o) :=
  ⟨h.os, h.tape, h.output, by have := h.size; simp; omega, fun k h1 h2 => (Below.heap_alloc W' o k (by have := h.size; omega)).trans (h.block k h1 h2)⟩
theorem Sm.set {R M q j : Nat} {W W' : World} (h : Sm R M W W') (hq : M ≤ q) (u : Value) : Sm R M W (W'.setCell ⟨q, j, none⟩ u) :=
  ⟨h.os, h.tape, h.output, by have := h.size; simpa using this, fun k h1 h2 => (Below.heap_setCell W' _ _ k (by dsimp only; omega)).trans (h.block k h1 h2)⟩
theorem Sm.of_tch {R M g : Nat} {W W' : World} (ht : Tch g W W') (hg : g < R) (hM : M ≤ W.heap.size) : Sm R M W W' := (Sm.refl R M W).tch ht hg hM
/-- An instruction's box bx, made in w2, and what it is drawn with. -/
structure Xs (g : Nat) (a : Option Addr) (len cap : Nat) (w w2 W : World) (p q r s t : Int) : Prop where
  cur : Cur g a len cap W
  tch : Tch g w W
  sm : Sm w.heap.size w2.heap.size w2 W
  lt : w2.heap.size < W.heap.size
  c0 : W.cell? ⟨w2.heap.size, 0, none⟩ = some (.int .i64 p)
  c1 : W.cell? ⟨w2.heap.size, 1, none⟩ = some (.int .i64 q)
  c2 : W.cell? ⟨w2.heap.size, 2, none⟩ = some (.int .i64 r)
  c3 : W.cell? ⟨w2.heap.size, 3, none⟩ = some (.int .i64 s)
  c4 : W.cell? ⟨w2.heap.size, 4, none⟩ = some (.int .i64 t)
  fz : ∀ j, W.frozen? ⟨w2.heap.size, j, none⟩ = false
theorem Xs.go {g : Nat} {a : Option Addr} {len cap : Nat} {w w2 W W' : World} {p q r s t : Int} (h : Xs g a len cap w w2 W p q r s t) (hg : g < w.heap.size) (h2 : w.heap.size ≤ w2.heap.size) (hc : Cur g a len cap W') (ht : Tch g W W') : Xs g a len cap w w2 W' p q r s t := by
  have hlt := h.lt
  have e : ∀ j, W'.cell? ⟨w2.heap.size, j, none⟩ = W.cell? ⟨w2.heap.size, j, none⟩ := fun j => ht.cell hlt (by omega)
  exact ⟨hc, h.tch.trans ht, h.sm.tch ht hg (Nat.le_refl _), Nat.lt_of_lt_of_le hlt ht.size, (e 0).trans h.c0, (e 1).trans h.c1, (e 2).trans h.c2, (e 3).trans h.c3, (e 4).trans h.c4, fun j => (ht.frozen hlt (by omega)).trans (h.fz j)⟩
theorem Xs.set0 {g : Nat} {a : Option Addr} {len cap : Nat} {w w2 W : World} {p q r s t : Int} (h : Xs g a len cap w w2 W p q r s t) (hg : g < w.heap.size) (h2 : w.heap.size ≤ w2.heap.size) (hb : ∀ b off, 0 < len → a = some ⟨b, off, none⟩ → b < w.heap.size) (z : Int) : Xs g a len cap w w2 (W.setCell ⟨w2.heap.size, 0, none⟩ (.int .i64 z)) z q r s t := by
  have hlt := h.lt
  have n : ∀ i, i ≠ 0 → (W.setCell ⟨w2.heap.size, 0, none⟩ (.int .i64 z)).cell? ⟨w2.heap.size, i, none⟩ = W.cell? ⟨w2.heap.size, i, none⟩ := fun i hi => World.cell?_setCell_other _ _ _ _ (by simp <;> omega)
  refine ⟨h.cur.store (by omega) (fun b off h0 ha => by have := hb b off h0 ha; omega), h.tch.store h2, h.sm.set (Nat.le_refl _) _, by simpa using hlt, ?_, ?_, ?_, ?_, ?_, fun i => by simpa using h.fz i⟩
  · exact World.cell?_setCell_same _ _ _ h.c0
  · exact (n 1 (by decide)).trans h.c1
  · exact (n 2 (by decide)).trans h.c2
  · exact (n 3 (by decide)).trans h.c3
  · exact (n 4 (by decide)).trans h.c4
theorem Xs.set1 {g : Nat} {a : Option Addr} {len cap : Nat} {w w2 W : World} {p q r s t : Int} (h : Xs g a len cap w w2 W p q r s t) (hg : g < w.heap.size) (h2 : w.heap.size ≤ w2.heap.size) (hb : ∀ b off, 0 < len → a = some ⟨b, off, none⟩ → b < w.heap.size) (z : Int) : Xs g a len cap w w2 (W.setCell ⟨w2.heap.size, 1, none⟩ (.int .i64 z)) p z r s t := by
  have hlt := h.lt
  have n : ∀ i, i ≠ 1 → (W.setCell ⟨w2.heap.size, 1, none⟩ (.int .i64 z)).cell? ⟨w2.heap.size, i, none⟩ = W.cell? ⟨w2.heap.size, i, none⟩ := fun i hi => World.cell?_setCell_other _ _ _ _ (by simp <;> omega)
  refine ⟨h.cur.store (by omega) (fun b off h0 ha => by have := hb b off h0 ha; omega), h.tch.store h2, h.sm.set (Nat.le_refl _) _, by simpa using hlt, ?_, ?_, ?_, ?_, ?_, fun i => by simpa using h.fz i⟩
  · exact (n 0 (by decide)).trans h.c0
  · exact World.cell?_setCell_same _ _ _ h.c1
  · exact (n 2 (by decide)).trans h.c2
  · exact (n 3 (by decide)).trans h.c3
  · exact (n 4 (by decide)).trans h.c4
theorem Xs.set2 {g : Nat} {a : Option Addr} {len cap : Nat} {w w2 W : World} {p q r s t : Int} (h : Xs g a len cap w w2 W p q r s t) (hg : g < w.heap.size) (h2 : w.heap.size ≤ w2.heap.size) (hb : ∀ b off, 0 < len → a = some ⟨b, off, none⟩ → b < w.heap.size) (z : Int) : Xs g a len cap w w2 (W.setCell ⟨w2.heap.size, 2, none⟩ (.int .i64 z)) p q z s t := by
  have hlt := h.lt
  have n : ∀ i, i ≠ 2 → (W.setCell ⟨w2.heap.size, 2, none⟩ (.int .i64 z)).cell? ⟨w2.heap.size, i, none⟩ = W.cell? ⟨w2.heap.size, i, none⟩ := fun i hi => World.cell?_setCell_other _ _ _ _ (by simp <;> omega)
  refine ⟨h.cur.store (by omega) (fun b off h0 ha => by have := hb b off h0 ha; omega), h.tch.store h2, h.sm.set (Nat.le_refl _) _, by simpa using hlt, ?_, ?_, ?_, ?_, ?_, fun i => by simpa using h.fz i⟩
  · exact (n 0 (by decide)).trans h.c0
  · exact (n 1 (by decide)).trans h.c1
  · exact World.cell?_setCell_same _ _ _ h.c2
  · exact (n 3 (by decide)).trans h.c3
  · exact (n 4 (by decide)).trans h.c4
theorem Xs.set3 {g : Nat} {a : Option Addr} {len cap : Nat} {w w2 W : World} {p q r s t : Int} (h : Xs g a len cap w w2 W p q r s t) (hg : g < w.heap.size) (h2 : w.heap.size ≤ w2.heap.size) (hb : ∀ b off, 0 < len → a = some ⟨b, off, none⟩ → b < w.heap.size) (z : Int) : Xs g a len cap w w2 (W.setCell ⟨w2.heap.size, 3, none⟩ (.int .i64 z)) p q r z t := by
  have hlt := h.lt
  have n : ∀ i, i ≠ 3 → (W.setCell ⟨w2.heap.size, 3, none⟩ (.int .i64 z)).cell? ⟨w2.heap.size, i, none⟩ = W.cell? ⟨w2.heap.size, i, none⟩ := fun i hi => World.cell?_setCell_other _ _ _ _ (by simp <;> omega)
  refine ⟨h.cur.store (by omega) (fun b off h0 ha => by have := hb b off h0 ha; omega), h.tch.store h2, h.sm.set (Nat.le_refl _) _, by simpa using hlt, ?_, ?_, ?_, ?_, ?_, fun i => by simpa using h.fz i⟩
  · exact (n 0 (by decide)).trans h.c0
  · exact (n 1 (by decide)).trans h.c1
  · exact (n 2 (by decide)).trans h.c2
  · exact World.cell?_setCell_same _ _ _ h.c3
  · exact (n 4 (by decide)).trans h.c4
theorem Xs.set4 {g : Nat} {a : Option Addr} {len cap : Nat} {w w2 W : World} {p q r s t : Int} (h : Xs g a len cap w w2 W p q r s t) (hg : g < w.heap.size) (h2 : w.heap.size ≤ w2.heap.size) (hb : ∀ b off, 0 < len → a = some ⟨b, off, none⟩ → b < w.heap.size) (z : Int) : Xs g a len cap w w2 (W.setCell ⟨w2.heap.size, 4, none⟩ (.int .i64 z)) p q r s z := by
  have hlt := h.lt
  have n : ∀ i, i ≠ 4 → (W.setCell ⟨w2.heap.size, 4, none⟩ (.int .i64 z)).cell? ⟨w2.heap.size, i, none⟩ = W.cell? ⟨w2.heap.size, i, none⟩ := fun i hi => World.cell?_setCell_other _ _ _ _ (by simp <;> omega)
  refine ⟨h.cur.store (by omega) (fun b off h0 ha => by have := hb b off h0 ha; omega), h.tch.store h2, h.sm.set (Nat.le_refl _) _, by simpa using hlt, ?_, ?_, ?_, ?_, ?_, fun i => by simpa using h.fz i⟩
  · exact (n 0 (by decide)).trans h.c0
  · exact (n 1 (by decide)).trans h.c1
  · exact (n 2 (by decide)).trans h.c2
  · exact (n 3 (by decide)).trans h.c3
  · exact World.cell?_setCell_same _ _ _ h.c4
end Go.Proofs.Ytffihdllalnncaa
