import Derived.Test.YtjnnepkoeloekaaGreatDoorPY5
import Derived.Lib.AppendStr
namespace Go.Proofs.YtjnnepkoeloekaaGreatDoor
open Go.RowKit
set_option linter.unusedVariables false
set_option linter.unusedSimpArgs false

/-- The block of the row in the printer's box. -/
def rb (w : World) (P : Nat) : Option Nat := (w.cell? ⟨P, 0, none⟩).bind Value.ownBlock
/-- The world has grown; of the old blocks only the printer's box and its row may have turned. -/
structure Wr (P : Nat) (w w' : World) : Prop where
  still : w'.os = w.os ∧ w'.tape = w.tape ∧ w'.output = w.output
  size : w.heap.size ≤ w'.heap.size
  block : ∀ k, k < w.heap.size → k ≠ P → some k ≠ rb w P → w'.heap[k]? = w.heap[k]?
  row : ∀ k, rb w' P = some k → rb w P = some k ∨ w.heap.size ≤ k
theorem Wr.refl (P : Nat) (w : World) : Wr P w w := ⟨⟨rfl, rfl, rfl⟩, Nat.le_refl _, fun _ _ _ _ => rfl, fun _ h => .inl h⟩
theorem Wr.trans {P : Nat} {w w' w'' : World} (h : Wr P w w') (h' : Wr P w' w'') : Wr P w w'' := by
  refine ⟨⟨h'.still.1.trans h.still.1, h'.still.2.1.trans h.still.2.1, h'.still.2.2.trans h.still.2.2⟩, Nat.le_trans h.size h'.size, fun k h1 h2 h3 => ?_, fun k hk => ?_⟩
  · rw [h'.block k (Nat.lt_of_lt_of_le h1 h.size) h2, h.block k h1 h2 h3]
    intro he
    rcases h.row k he.symm with h4 | h4
    · exact h3 h4.symm
    · omega
  · rcases h'.row k hk with h4 | h4
    · exact h.row k h4
    · exact .inr (Nat.le_trans h.size h4)
theorem Wr.below {P : Nat} {w w' : World} (hP : P < w.heap.size) (hb : Below w.heap.size w w') : Wr P w w' := by
  refine ⟨⟨hb.os, hb.tape, hb.output⟩, hb.size, fun k h1 _ _ => hb.block k h1, fun k hk => .inl ?_⟩
  unfold rb at hk ⊢
  rw [hb.cell (p := ⟨P, 0, none⟩) hP] at hk
  exact hk
/-- The printer, its box P, has the text l. -/
def Out (w : World) (P : Nat) (l : List UInt8) : Prop := P < w.heap.size ∧ w.frozen? ⟨P, 0, none⟩ = false ∧ ∃ v, w.cell? ⟨P, 0, none⟩ = some v ∧ w.ownsRow (P + 1) 5 1 v l.length (Lib.strCells (tx l))
theorem Out.below {w w' : World} {P : Nat} {l : List UInt8} (h : Out w P l) (hb : Below w.heap.size w w') : Out w' P l := by
  obtain ⟨h0, h1, v, h2, h3⟩ := h
  refine ⟨Nat.lt_of_lt_of_le h0 hb.size, (hb.frozen (p := ⟨P, 0, none⟩) h0).trans h1, v, (hb.cell (p := ⟨P, 0, none⟩) h0).trans h2, ?_⟩
  obtain ⟨g1, g2⟩ := h3
  refine ⟨g1, ?_⟩
  rcases g2 with g2 | ⟨g, cap, cur, rfl, g3, g4, g5⟩
  · exact .inl g2
  · refine .inr ⟨g, cap, cur, rfl, g3, ?_, g5⟩
    rw [hb.block g (by have := (Array.getElem?_eq_some_iff.1 g4).1; exact this)]
    exact g4
/-- A row of texts in block g. -/
def TextsC (w : World) (g : Nat) (ts : List (List UInt8)) : Prop := ∀ j (h : j < ts.length), w.cell? ⟨g, j, none⟩ = some (.string (tx ts[j]))
theorem Wr.cell {P : Nat} {w w' : World} (h : Wr P w w') {k o : Nat} {v : Value} (hk : k ≠ P) (hr : some k ≠ rb w P) (hc : w.cell? ⟨k, o, none⟩ = some v) : w'.cell? ⟨k, o, none⟩ = some v :=
  (World.cell?_of_block (h.block k (World.block_lt_of_cell? _ _ hc) hk hr)).trans hc
theorem strCells_app (a b : List UInt8) : Lib.strCells (tx (a ++ b)) = Lib.strCells (tx a) ++ Lib.strCells (tx b) := by
  simp [Lib.strCells, tx]
theorem info_byte : (Tryz.prog.info? 5).map (fun i => (i.zero, i.size, i.bytes)) = some (some (.int .u8 0), 1, 1) := by kernel_rfl
/-- The row has grown and the box holds it. -/
theorem out_step {w w' : World} {P : Nat} {l m : List UInt8} {v v' : Value} (hO : Out w P l) (hv : w.cell? ⟨P, 0, none⟩ = some v) (hown : w'.ownsRow (P + 1) 5 1 v' (l.length + m.length) (Lib.strCells (tx l) ++ Lib.strCells (tx m))) (hg : w.grownBy w' v.ownBlock) (hfr : ∀ k, v'.ownBlock = some k → v.ownBlock = some k ∨ w.heap.size ≤ k) :
    w'.frozen? ⟨P, 0, none⟩ = false ∧ w'.cell? ⟨P, 0, none⟩ = some v ∧ Out (w'.setCell ⟨P, 0, none⟩ v') P (l ++ m) ∧ Wr P w (w'.setCell ⟨P, 0, none⟩ v') := by
  obtain ⟨h0, h1, v0, h2, h3⟩ := hO
  rw [hv] at h2
  simp only [Option.some.injEq] at h2
  subst h2
  have hne : some P ≠ v.ownBlock := fun e => by have := (h3.lt P e.symm).1; omega
  have hblk := hg.block P h0 hne
  have c1 : w'.cell? ⟨P, 0, none⟩ = some v := (World.cell?_of_block (a := ⟨P, 0, none⟩) hblk).trans hv
  have f1 : w'.frozen? ⟨P, 0, none⟩ = false := (World.frozen?_of_block (a := ⟨P, 0, none⟩) hblk).trans h1
  have hc2 : (w'.setCell ⟨P, 0, none⟩ v').cell? ⟨P, 0, none⟩ = some v' := World.cell?_setCell_same _ _ _ c1
  have hoth : ∀ k, k ≠ P → (w'.setCell ⟨P, 0, none⟩ v').heap[k]? = w'.heap[k]? := by
    intro k hk
    exact Below.heap_setCell _ _ _ k (fun h => hk (by simpa using h))
  refine ⟨f1, c1, ⟨?_, (World.frozen?_setCell _ _ _ _).trans f1, v', hc2, ?_⟩, ?_⟩
  · simp only [World.size_setCell]; exact Nat.lt_of_lt_of_le h0 hg.size
  · rw [List.length_append, strCells_app]
    obtain ⟨g1, g2⟩ := hown
    refine ⟨g1, ?_⟩
    rcases g2 with g2 | ⟨g, cap, cur, rfl, g3, g4, g5⟩
    · exact .inl g2
    · refine .inr ⟨g, cap, cur, rfl, g3, ?_, g5⟩
      rw [hoth g (by omega)]
      exact g4
  · refine ⟨⟨hg.os, hg.tape, hg.output⟩, by simp only [World.size_setCell]; exact hg.size, fun k k1 k2 k3 => ?_, fun k hk => ?_⟩
    · rw [hoth k k2, hg.block k k1]
      intro e
      apply k3
      unfold rb
      rw [hv]
      exact e
    · unfold rb at hk ⊢
      rw [hc2] at hk
      rw [hv]
      simp only [Option.bind_some] at hk ⊢
      exact hfr k hk

theorem Wr.toBelow {P : Nat} {w w' : World} {l : List UInt8} (h : Wr P w w') (hO : Out w P l) : Below P w w' := by
  refine ⟨h.still.1, h.still.2.1, h.still.2.2, h.size, fun k hk => h.block k (by have := hO.1; omega) (by omega) (fun e => ?_)⟩
  obtain ⟨h0, h1, v, h2, h3⟩ := hO
  unfold rb at e
  rw [h2] at e
  have := (h3.lt k e.symm).1
  omega
theorem Out.rb_lt {P k : Nat} {w : World} {l : List UInt8} (hO : Out w P l) (h : rb w P = some k) : P < k ∧ k < w.heap.size := by
  obtain ⟨h0, h1, v, h2, h3⟩ := hO
  unfold rb at h
  rw [h2] at h
  have := h3.lt k h
  omega
/-- A block that is newer than the printer's row. -/
theorem Out.rb_ne {P : Nat} {w : World} {l : List UInt8} (hO : Out w P l) (o : Obj) : some w.heap.size ≠ rb (w.alloc o) P := by
  intro e
  have e2 : rb (w.alloc o) P = rb w P := by
    unfold rb
    rw [((Below.refl _ _).alloc (Nat.le_refl _) o : Below w.heap.size w (w.alloc o)).cell (p := ⟨P, 0, none⟩) hO.1]
  rw [e2] at e
  have := hO.rb_lt e.symm
  omega

section
variable {P : Program} {w : World}
/-- The row behind an append of a text is the old one or new. -/
theorem app_fresh (base : Nat) (t u ty e : TypeId) (i : TypeInfo) (ht : P.underlying t = some (.slice e)) (hu : P.underlying u = some .string) (hi : P.info? e = some i) (hz : i.zero = some (.int .u8 0))
    (hsize : i.size = 1) (hby : i.bytes = 1)
    (v : Value) (n : Nat) (xs : List Value) (hown : w.ownsRow base e 1 v n xs) (s : ByteArray)
    (hbytes : n + s.size ≤ 1000000000) (hbase : base ≤ w.heap.size) :
    ∃ v' w', (Builtin.append_ #[t, u] ty #[v, .string s]).run P w = .ok v' w' ∧ w'.ownsRow base e 1 v' (n + s.size) (xs ++ Lib.strCells s) ∧ w.grownBy w' v.ownBlock ∧ ∀ k, v'.ownBlock = some k → v.ownBlock = some k ∨ w.heap.size ≤ k := by
  obtain ⟨v', w', h1, h2, h3, _⟩ := Lib.run_append_own_string (P := P) w base t u ty e i ht hu hi hz hsize hby v n xs hown s (by unfold maxLen; omega) (by omega) hbase
  refine ⟨v', w', h1, h2, h3, fun k hk => ?_⟩
  have hown0 := hown
  have hxl : xs.length = n := by simpa using hown.1
  rcases hown.2 with ⟨rfl, rfl⟩ | ⟨g, cap, cur, rfl, hbg, hg, hnc, hcm, hcs, htake⟩
  · have hx : xs = [] := List.eq_nil_of_length_eq_zero hxl
    subst hx
    obtain ⟨v2, w2, g1, g2, _⟩ := Lib.run_append_own_string (P := P) w w.heap.size t u ty e i ht hu hi hz hsize hby (.slice none 0 0) 0 [] (World.ownsRow_nil _ _ _ _) s (by unfold maxLen; omega) (by omega) (Nat.le_refl _)
    rw [h1] at g1
    simp only [Result.ok.injEq] at g1
    obtain ⟨rfl, rfl⟩ := g1
    exact .inr (g2.lt k hk).1
  · by_cases hroom : n + s.size ≤ cap
    · have hr := Lib.run_append_room_string (P := P) w t u ty e i ht hu hi hsize g n cap cur hg s hroom (by omega)
      rw [h1] at hr
      simp only [Result.ok.injEq] at hr
      obtain ⟨rfl, rfl⟩ := hr
      exact .inl hk
    · have holds : ∀ j u, xs[j]? = some u → w.cell? ((⟨g, 0, none⟩ : Addr).add j) = some u := hown0.cells (g := g) rfl
      have hr := Lib.run_append_grow_string (P := P) w t u ty e i (.int .u8 0) ht hu hi hz ⟨g, 0, none⟩ n cap xs (by rw [hsize]; simpa using hxl) holds s (by omega) (by omega) (by rw [hby]; exact growslice_fits (by omega) (by omega))
      rw [h1] at hr
      simp only [Result.ok.injEq] at hr
      obtain ⟨rfl, rfl⟩ := hr
      simp only [Value.ownBlock, Option.some.injEq] at hk
      exact .inr (by omega)
theorem wpList_app {ops : Array Oper} {rest : List Oper} {o : Oper} {a : Act} {Q : Exit → Act → World → Prop} (hgd : o.guard = none) (sl x : Operand) (t u : TypeId)
    (ho : o.op = .call { callee := .builtin .append, args := #[sl, x], argTypes := #[t, u] })
    (base : Nat) (e : TypeId) (i : TypeInfo) (ht : P.underlying t = some (.slice e)) (hu : P.underlying u = some .string) (hi : P.info? e = some i) (hz : i.zero = some (.int .u8 0))
    (hsize : i.size = 1) (hby : i.bytes = 1)
    (v : Value) (n : Nat) (xs : List Value) (hs : a.eval sl = v) (hown : w.ownsRow base e 1 v n xs) (s : ByteArray) (hx : a.eval x = .string s)
    (hbytes : n + s.size ≤ 1000000000) (hbase : base ≤ w.heap.size)
    (h : ∀ v' w', w'.ownsRow base e 1 v' (n + s.size) (xs ++ Lib.strCells s) → w.grownBy w' v.ownBlock → (∀ k, v'.ownBlock = some k → v.ownBlock = some k ∨ w.heap.size ≤ k) → wpList P ops Q rest (a.put o.dst v') w') : wpList P ops Q (o :: rest) a w := by
  refine wpList_plain hgd fun K hK => ?_
  obtain ⟨v', w', hr, h2, h3, h4⟩ := app_fresh (P := P) (w := w) base t u o.type e i ht hu hi hz hsize hby v n xs hown s hbytes hbase
  unfold Oper.wp execOp
  simp only [ho, resolve, invoke, builtin, Sem.run_bind, Sem.run_pure, Result.andThen_ok, List.map_toArray, List.map_cons, List.map_nil, hs, hx, hr]
  exact hK _ _ (h v' w' h2 h3 h4)
end

end Go.Proofs.YtjnnepkoeloekaaGreatDoor
