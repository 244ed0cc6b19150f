import Derived.Test.YtjhmgjimppflhaaGreatDoorZ22
import Derived.WalkKit
import Derived.OwnWalk
namespace Go.Proofs.YtjhmgjimppflhaaGreatDoor
set_option linter.unusedVariables false
set_option linter.unusedSimpArgs false
set_option maxRecDepth 100000
set_option maxHeartbeats 16000000
section
open Go.RowKit
theorem stmts_of {W : World} {B : Nat} {v : Value} {R : List SV} (h0 : W.ownsRow B 88 6 v R.length (flatS R)) (hp : PtS R W) : Stmts W v (R.map (·.s)) := by
  rcases h0.2 with ⟨rfl, hz⟩ | ⟨g, cap, cur, rfl, h3, h4, h5⟩
  · exact ⟨none, 0, by rw [List.length_map, hz], by rw [List.length_map, hz]; exact Nat.le_refl _, by omega, fun h => by rw [List.length_map] at h; omega⟩
  · have hc : R.length ≤ cap ∧ cap ≤ 9223372036854775807 := by
      obtain ⟨q1, q2, -⟩ := h5
      unfold maxLen at q2
      exact ⟨q1, q2⟩
    refine ⟨some ⟨g, 0, none⟩, cap, by rw [List.length_map], by rw [List.length_map]; exact hc.1, hc.2, fun hp' => ⟨g, 0, rfl, fun j hj => ?_⟩⟩
    rw [List.length_map] at hj
    have key : ∀ i, i < 6 → W.cell? ⟨g, 0 + j * 6 + i, none⟩ = (cellsS R[j])[i]? := fun i hi => by
      have hl : (flatS R).length = R.length * 6 := flatS_len R
      rw [Nat.zero_add, World.ownsRow.cellAt h0 (j * 6 + i) (by omega), flatS_get R j i hj hi]
    have he := hp R[j] (List.getElem_mem hj)
    refine ⟨R[j].ve, R[j].vf, ?_, ?_, ?_⟩
    · simp only [List.getElem_map]
      exact ⟨key 0 (by omega), key 1 (by omega), key 2 (by omega), key 3 (by omega), key 4 (by omega), key 5 (by omega)⟩
    · simp only [List.getElem_map]; exact he.1
    · simp only [List.getElem_map]; exact he.2
/-- The statements are read wherever only blocks below them have turned. -/
theorem SR.stmts {B : Nat} {w : World} {v : Value} {R : List SV} {L : Nat} (h : SR B w v R L) : ∀ W, Tcs (fun k => k < B) w W → Stmts W v (R.map (·.s)) := fun W hW =>
  stmts_of (own_tcs h.row.row hW (fun k hk => hk)) (h.row.st W (hW.mono fun k hk => .inl hk))
/-- Statements, read cell by cell, with what they point to. -/
def RdS (W : World) (v : Value) (R : List SV) : Prop := (∃ a c, v = .slice a R.length c ∧ R.length ≤ c ∧ c ≤ 9223372036854775807 ∧ (0 < R.length → ∃ b off, a = some ⟨b, off, none⟩ ∧ ∀ j u, (flatS R)[j]? = some u → W.cell? ⟨b, off + j, none⟩ = some u)) ∧ PtS R W
theorem RdS.stmts {W : World} {v : Value} {R : List SV} (h : RdS W v R) : Stmts W v (R.map (·.s)) := by
  obtain ⟨⟨a, c, rfl, h1, h2, h3⟩, hp⟩ := h
  refine ⟨a, c, by rw [List.length_map], by rw [List.length_map]; exact h1, h2, fun hp' => ?_⟩
  rw [List.length_map] at hp'
  obtain ⟨b, off, rfl, hc⟩ := h3 hp'
  refine ⟨b, off, rfl, fun j hj => ?_⟩
  rw [List.length_map] at hj
  have key : ∀ i (hi : i < 6), W.cell? ⟨b, off + j * 6 + i, none⟩ = (cellsS R[j])[i]? := fun i hi => by
    have e := flatS_get R j i hj hi
    have hl : i < (cellsS R[j]).length := hi
    rw [List.getElem?_eq_getElem hl] at e ⊢
    rw [Nat.add_assoc]
    exact hc _ _ e
  have he := hp R[j] (List.getElem_mem hj)
  refine ⟨R[j].ve, R[j].vf, ?_, ?_, ?_⟩
  · simp only [List.getElem_map]
    exact ⟨key 0 (by omega), key 1 (by omega), key 2 (by omega), key 3 (by omega), key 4 (by omega), key 5 (by omega)⟩
  · simp only [List.getElem_map]; exact he.1
  · simp only [List.getElem_map]; exact he.2
theorem rd_of {W : World} {B : Nat} {v : Value} {R : List SV} (h0 : W.ownsRow B 88 6 v R.length (flatS R)) (hp : PtS R W) : RdS W v R := by
  refine ⟨?_, hp⟩
  have hh := h0
  rcases h0.2 with ⟨rfl, hz⟩ | ⟨g, cap, cur, rfl, h3, h4, h5⟩
  · exact ⟨none, 0, by rw [hz], by omega, by omega, fun h => by omega⟩
  · obtain ⟨q1, q2, -⟩ := h5
    unfold maxLen at q2
    refine ⟨_, cap, rfl, q1, q2, fun _ => ⟨g, 0, rfl, fun j u hu => ?_⟩⟩
    have := World.ownsRow.cells hh (g := g) rfl j u hu
    rwa [addrO] at this
theorem SR.rd {B : Nat} {w : World} {v : Value} {R : List SV} {L : Nat} (h : SR B w v R L) : ∀ W, Tcs (fun k => k < B) w W → RdS W v R := fun W hW =>
  rd_of (own_tcs h.row.row hW (fun k hk => hk)) (h.row.st W (hW.mono fun k hk => .inl hk))
theorem RdS.one {W : World} {v : Value} {R : List SV} (h : RdS W v R) : v.oneCell' = true := by
  obtain ⟨⟨a, c, rfl, -⟩, -⟩ := h
  rfl
/-- What functions point to. -/
def PtF (Q : List FV) (W : World) : Prop := ∀ x ∈ Q, Strs W x.vp x.f.params ∧ RdS W x.vb x.R ∧ x.R.map (·.s) = x.f.body
/-- A function that can be told. -/
structure okFn (f : Fu) : Prop where
  nm : f.name.size ≤ 100000
  pl : f.params.length ≤ 20
  pn : ∀ p ∈ f.params, p.size ≤ 100000
  bl : 1 ≤ f.body.length
  bu : f.body.length ≤ 10000
  st : ∀ s ∈ f.body, okN s.e 3000 ∧ okN s.f 3000 ∧ s.name.size ≤ 100000
theorem okS.body {R : List SV} (h : okS R) : ∀ s ∈ R.map (·.s), okN s.e 3000 ∧ okN s.f 3000 ∧ s.name.size ≤ 100000 := fun s hs => by
  obtain ⟨x, hx, rfl⟩ := List.mem_map.1 hs
  exact h x hx
/-- A row of functions of one's own; what they point to lies outside S. -/
structure FR (S : Nat → Prop) (B : Nat) (w : World) (v : Value) (Q : List FV) : Prop where
  row : DRow 61 3 S B w v Q.length (flatF Q) (PtF Q)
  ok : ∀ x ∈ Q, okFn x.f
theorem FR.tcs {S : Nat → Prop} {B : Nat} {w w' : World} {v : Value} {Q : List FV} (h : FR S B w v Q) (ht : Tcs S w w') (hS : ∀ k, S k → k < B) : FR S B w' v Q := ⟨h.row.tcs ht hS, h.ok⟩
theorem FR.below {S : Nat → Prop} {B : Nat} {w w' : World} {v : Value} {Q : List FV} (h : FR S B w v Q) (hb : Below w.heap.size w w') : FR S B w' v Q := ⟨h.row.below hb, h.ok⟩
theorem FR.low {S : Nat → Prop} {B B' : Nat} {w : World} {v : Value} {Q : List FV} (h : FR S B w v Q) (hb : B' ≤ B) : FR S B' w v Q := ⟨h.row.low hb, h.ok⟩
theorem FR.less {S S' : Nat → Prop} {B : Nat} {w : World} {v : Value} {Q : List FV} (h : FR S B w v Q) (hs : ∀ k, S' k → S k) : FR S' B w v Q := ⟨h.row.less hs, h.ok⟩
theorem FR.rng {S : Nat → Prop} {B : Nat} {w : World} {v : Value} {Q : List FV} (h : FR S B w v Q) : ∀ k, v.ownBlock = some k → B ≤ k ∧ k < w.heap.size := fun k hk => World.ownsRow.lt h.row.row k hk
theorem FR.shape {S : Nat → Prop} {B : Nat} {w : World} {v : Value} {Q : List FV} (h : FR S B w v Q) : ∃ a c, v = .slice a Q.length c := by
  obtain ⟨a, c, e, -⟩ := own_shape h.row.row
  exact ⟨a, c, e⟩
theorem fr_none {S : Nat → Prop} {B : Nat} {w : World} : FR S B w (.slice none 0 0) [] := ⟨DRow.nil (fun W x hx => by cases hx), fun x hx => by cases hx⟩
theorem funcs_of {W : World} {B : Nat} {v : Value} {Q : List FV} (h0 : W.ownsRow B 61 3 v Q.length (flatF Q)) (hp : PtF Q W) : Funcs W v (Q.map (fun q : FV => q.f)) := by
  rcases h0.2 with ⟨rfl, hz⟩ | ⟨g, cap, cur, rfl, h3, h4, h5⟩
  · exact ⟨none, 0, by rw [List.length_map, hz], by rw [List.length_map, hz]; exact Nat.le_refl _, by omega, fun h => by rw [List.length_map] at h; omega⟩
  · have hc : Q.length ≤ cap ∧ cap ≤ 9223372036854775807 := by
      obtain ⟨q1, q2, -⟩ := h5
      unfold maxLen at q2
      exact ⟨q1, q2⟩
    refine ⟨some ⟨g, 0, none⟩, cap, by rw [List.length_map], by rw [List.length_map]; exact hc.1, hc.2, fun hp' => ⟨g, 0, rfl, fun j hj => ?_⟩⟩
    rw [List.length_map] at hj
    have key : ∀ i, i < 3 → W.cell? ⟨g, 0 + j * 3 + i, none⟩ = (cellsF Q[j])[i]? := fun i hi => by
      have hl : (flatF Q).length = Q.length * 3 := flatF_len Q
      rw [Nat.zero_add, World.ownsRow.cellAt h0 (j * 3 + i) (by omega), flatF_get Q j i hj hi]
    obtain ⟨e1, e2, e3⟩ := hp Q[j] (List.getElem_mem hj)
    have e2 := e2.stmts
    rw [e3] at e2
    refine ⟨Q[j].vp, Q[j].vb, ?_, ?_, ?_⟩
    · simp only [List.getElem_map]
      exact ⟨key 0 (by omega), key 1 (by omega), key 2 (by omega)⟩
    · simp only [List.getElem_map]; exact e1
    · simp only [List.getElem_map]; exact e2
theorem FR.funcs {S : Nat → Prop} {B : Nat} {w : World} {v : Value} {Q : List FV} (h : FR S B w v Q) (hS : ∀ k, S k → k < B) : ∀ W, Tcs S w W → Funcs W v (Q.map (fun q : FV => q.f)) := fun W hW =>
  funcs_of (own_tcs h.row.row hW hS) (h.row.st W (hW.mono fun k hk => .inl hk))
/-- append of functions, given by their cells. -/
theorem fr_app {S : Nat → Prop} {w : World} {B m c : Nat} {v : Value} {Q Q2 : List FV} (ty : TypeId) (h : FR S B w v Q) (a : Option Addr) (hm2 : m = Q2.length) (hn : a = none → m = 0) (hc : ∀ ad, a = some ad → ∀ j u, (flatF Q2)[j]? = some u → w.cell? (ad.add j) = some u) (h1 : ∀ x ∈ Q2, x.vp.oneCell' = true ∧ x.vb.oneCell' = true) (ho : ∀ x ∈ Q2, okFn x.f)
    (hP2 : ∀ W, Tcs (fun k => S k ∨ v.ownBlock = some k) w W → PtF Q2 W) (hm : Q.length + Q2.length ≤ 100000) (hB : B ≤ w.heap.size) :
    ∃ v' w', (Builtin.append_ #[24, 24] ty #[v, .slice a m c]).run Tryz.prog w = .ok v' w' ∧ FR S B w' v' (Q ++ Q2) ∧ Tcs (fun k => v.ownBlock = some k) w w' ∧ ∀ k, v'.ownBlock = some k → v.ownBlock = some k ∨ w.heap.size ≤ k := by
  subst hm2
  obtain ⟨i0, hi, hz0, hz1, hz2⟩ := info_parts info_func
  obtain ⟨v', w', r1, r2, r3, r4⟩ := drow_app (Pg := Tryz.prog) (w := w) (T := 61) (t := 24) (c := c) (P2 := PtF Q2) ty Tryz.underlying24 hi hz0 hz1 hz2 rfl (by decide) h.row a hn (flatF_len Q2) hc (fun u hu => by
    simp only [flatF, List.mem_flatMap] at hu
    obtain ⟨x, hx, hu⟩ := hu
    obtain ⟨g1, g2⟩ := h1 x hx
    simp only [cellsF, List.mem_cons, List.not_mem_nil, or_false] at hu
    rcases hu with rfl | rfl | rfl
    · rfl
    · exact g1
    · exact g2) hP2 (by omega) (by decide) hB
  refine ⟨v', w', r1, ⟨⟨by rw [List.length_append, flatF_append]; exact r2.row, fun W hW x hx => ?_⟩, fun x hx => ?_⟩, r3, r4⟩
  · rcases List.mem_append.1 hx with hx | hx
    · exact (r2.st W hW).1 x hx
    · exact (r2.st W hW).2 x hx
  · rcases List.mem_append.1 hx with hx | hx
    · exact h.ok x hx
    · exact ho x hx
/-- A tree that is drawn: it is read wherever only blocks of S have turned. -/
structure TD (S : Nat → Prop) (w : World) (vg vf : Value) (t : Tr) : Prop where
  gs : ∀ W, Tcs S w W → Globs W vg t.globals
  fs : ∃ b off c, ∃ Q : List FV, vf = .slice (some ⟨b, off, none⟩) Q.length c ∧ Q.length ≤ c ∧ c ≤ 9223372036854775807 ∧ Q.map (fun q : FV => q.f) = t.funcs ∧ ∀ W, Tcs S w W → (∀ j u, (flatF Q)[j]? = some u → W.cell? ⟨b, off + j, none⟩ = some u) ∧ PtF Q W
  gl : 1 ≤ t.globals.length ∧ t.globals.length ≤ 20
  gn : ∀ x ∈ t.globals, x.name.size ≤ 100000
  fl : 1 ≤ t.funcs.length ∧ t.funcs.length ≤ 20
  ok : ∀ f ∈ t.funcs, okFn f
theorem TD.tcs {S : Nat → Prop} {w w' : World} {vg vf : Value} {t : Tr} (h : TD S w vg vf t) (ht : Tcs S w w') : TD S w' vg vf t := by
  obtain ⟨b, off, c, Q, h1, h2, h3, h4, h5⟩ := h.fs
  exact ⟨fun W hW => h.gs W (ht.trans hW), ⟨b, off, c, Q, h1, h2, h3, h4, fun W hW => h5 W (ht.trans hW)⟩, h.gl, h.gn, h.fl, h.ok⟩
theorem TD.less {S S' : Nat → Prop} {w : World} {vg vf : Value} {t : Tr} (h : TD S w vg vf t) (hs : ∀ k, S' k → S k) : TD S' w vg vf t := by
  obtain ⟨b, off, c, Q, h1, h2, h3, h4, h5⟩ := h.fs
  exact ⟨fun W hW => h.gs W (hW.mono hs), ⟨b, off, c, Q, h1, h2, h3, h4, fun W hW => h5 W (hW.mono hs)⟩, h.gl, h.gn, h.fl, h.ok⟩
theorem TD.funcs {S : Nat → Prop} {w : World} {vg vf : Value} {t : Tr} (h : TD S w vg vf t) : ∀ W, Tcs S w W → Funcs W vf t.funcs := fun W hW => by
  obtain ⟨b, off, c, Q, rfl, h2, h3, h4, h5⟩ := h.fs
  obtain ⟨hc, hp⟩ := h5 W hW
  rw [← h4]
  refine ⟨_, c, by rw [List.length_map], by rw [List.length_map]; exact h2, h3, fun hp' => ⟨b, off, rfl, fun j hj => ?_⟩⟩
  rw [List.length_map] at hj
  have key : ∀ i (hi : i < 3), W.cell? ⟨b, off + j * 3 + i, none⟩ = (cellsF Q[j])[i]? := fun i hi => by
    have e := flatF_get Q j i hj hi
    have hl : i < (cellsF Q[j]).length := hi
    rw [List.getElem?_eq_getElem hl] at e ⊢
    rw [Nat.add_assoc]
    exact hc _ _ e
  obtain ⟨e1, e2, e3⟩ := hp Q[j] (List.getElem_mem hj)
  have e2 := e2.stmts
  rw [e3] at e2
  refine ⟨Q[j].vp, Q[j].vb, ?_, ?_, ?_⟩
  · simp only [List.getElem_map]
    exact ⟨key 0 (by omega), key 1 (by omega), key 2 (by omega)⟩
  · simp only [List.getElem_map]; exact e1
  · simp only [List.getElem_map]; exact e2
end
section
open Go.RowKit
/-- Block g holds these values, and may be written. -/
def FrC (w : World) (g : Nat) (xs : List Value) : Prop := ∀ j x, xs[j]? = some x → w.cell? ⟨g, j, none⟩ = some x ∧ w.frozen? ⟨g, j, none⟩ = false
theorem FrC.set {w : World} {g : Nat} {xs : List Value} (h : FrC w g xs) (i : Nat) (u : Value) : FrC (w.setCell ⟨g, i, none⟩ u) g (xs.set i u) := by
  intro j x hx
  rw [World.frozen?_setCell]
  by_cases e : i = j
  · subst e
    have hl := (List.getElem?_eq_some_iff.1 hx).1
    rw [List.length_set] at hl
    rw [List.getElem?_set_self hl] at hx
    obtain ⟨c, f⟩ := h i xs[i] (List.getElem?_eq_getElem hl)
    refine ⟨?_, f⟩
    rw [World.cell?_setCell_same _ _ _ c]
    exact hx
  · rw [List.getElem?_set_ne e] at hx
    obtain ⟨c, f⟩ := h j x hx
    refine ⟨?_, f⟩
    rw [World.cell?_setCell_other _ _ _ _ (by intro h; simp only [Addr.mk.injEq] at h; omega)]
    exact c
theorem FrC.keep {w w' : World} {g : Nat} {xs : List Value} (h : FrC w g xs) (e : w'.heap[g]? = w.heap[g]?) : FrC w' g xs := fun j x hx => by
  obtain ⟨c, f⟩ := h j x hx
  exact ⟨(World.cell?_of_block (a := ⟨g, j, none⟩) e).trans c, (World.frozen?_of_block (a := ⟨g, j, none⟩) e).trans f⟩
theorem FrC.below {w w' : World} {g : Nat} {xs : List Value} (h : FrC w g xs) (hb : Below w.heap.size w w') : FrC w' g xs := fun j x hx => by
  obtain ⟨c, f⟩ := h j x hx
  have hlt := World.block_lt_of_cell? _ _ c
  exact ⟨(hb.cell (p := ⟨g, j, none⟩) hlt).trans c, (hb.frozen (p := ⟨g, j, none⟩) hlt).trans f⟩
theorem FrC.tcs {S : Nat → Prop} {w w' : World} {g : Nat} {xs : List Value} (h : FrC w g xs) (hl : g < w.heap.size) (ht : Tcs S w w') (hn : ¬ S g) : FrC w' g xs := h.keep (ht.block g hl hn)
theorem box_fr (w : World) (cs : Array Value) (t : TypeId) (hm : cs.size ≤ 1000) : FrC (w.alloc (.cells cs t)) w.heap.size cs.toList := by
  intro j x hj
  have h : (w.alloc (.cells cs t)).ownsRow w.heap.size t 1 (.slice (some ⟨w.heap.size, 0, none⟩) cs.size cs.size) cs.size cs.toList := World.ownsRow_lit w cs cs.size (Nat.le_refl _) (by unfold maxLen; omega) (by omega)
  have hc := World.ownsRow.cells h (g := w.heap.size) rfl j x hj
  have e : (⟨w.heap.size, 0, none⟩ : Addr).add j = ⟨w.heap.size, j, none⟩ := by
    simp [Addr.add]
    try (intro h; omega)
  rw [e] at hc
  refine ⟨hc, ?_⟩
  rcases h.2 with ⟨e, -⟩ | ⟨g, cap, cur, e, h3, h4, h5⟩
  · simp at e
  · simp only [Value.slice.injEq, Option.some.injEq, Addr.mk.injEq] at e
    obtain ⟨⟨rfl, -, -⟩, -, -⟩ := e
    unfold World.frozen?
    simp only [h4]
    simp
end
end Go.Proofs.YtjhmgjimppflhaaGreatDoor
