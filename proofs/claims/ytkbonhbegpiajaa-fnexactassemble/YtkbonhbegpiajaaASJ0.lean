import Derived.Test.YtkbonhbegpiajaaASI
namespace Go.Proofs.Ytkbonhbegpiajaa
open Go.RowKit
set_option linter.unusedVariables false
set_option linter.unusedSimpArgs false
set_option linter.unusedSectionVars false
variable [Inhabited Pick]

theorem run_appU2 {w : World} (base : Nat) (ty : TypeId) (v : Value) (xs : List Int) (hown : URow base w v xs) (x : Value) (us : List Int) (hx : USrc w x us) (hm : xs.length + us.length ≤ 10000000) (hbase : base ≤ w.heap.size) :
    ∃ v' w', (Builtin.append_ #[24, 24] ty #[v, x]).run Try.prog w = .ok v' w' ∧ URow base w' v' (xs ++ us) ∧ w.grownBy w' v.ownBlock ∧ ∀ k, v'.ownBlock = some k → v.ownBlock = some k ∨ w.heap.size ≤ k := by
  obtain ⟨i0, hi, hz0, hz1, hz2⟩ := info_parts info_u32
  obtain ⟨a, cap, rfl, h2, h3⟩ := hx
  cases a with
  | none =>
    obtain rfl := h2 rfl
    have hr : (Builtin.append_ #[24, 24] ty #[v, .slice none ([] : List Int).length cap]).run Try.prog w = .ok v w := by
      rcases hown.2 with ⟨rfl, hn⟩ | ⟨g, cap', cur, rfl, _, _, hnc, _⟩
      · simp [Builtin.append_, run_underlying Try.underlying24, sizeOf, typeInfo, hi, Builtin.lenOf, Builtin.firstCells]
      · simp [Builtin.append_, run_underlying Try.underlying24, sizeOf, typeInfo, hi, Builtin.lenOf, Builtin.firstCells, hnc, storeCells]
    exact ⟨v, w, hr, by simpa using hown, ⟨rfl, rfl, rfl, Nat.le_refl _, fun _ _ _ => rfl⟩, fun k hk => .inl hk⟩
  | some ad =>
    obtain ⟨v', w', r1, r2, r3, r4⟩ := app_freshG (P := Try.prog) (w := w) base 24 ty 62 i0 _ 1 4 Try.underlying24 hi hz0 hz1 hz2 rfl (by decide) v xs.length (xs.map (Value.int .u32)) hown ad us.length cap (us.map (Value.int .u32)) (by simp) (h3 ad rfl) (by intro u hu; simp at hu; obtain ⟨y, _, rfl⟩ := hu; rfl) hm (by decide) hbase
    refine ⟨v', w', r1, ?_, r3, r4⟩
    unfold URow
    rw [List.length_append, List.map_append]
    exact r2
theorem step_appU {w : World} {ops : Array Oper} {o : Oper} {a : Act} {K : Act → World → Prop} {Q : Exit → Act → World → Prop} {E : Prop} (hgd : o.guard = none) (s x : Operand)
    (ho : o.op = .call { callee := .builtin .append, args := #[s, x], argTypes := #[24, 24] })
    (base : Nat) (v : Value) (xs : List Int) (hs : a.eval s = v) (hown : URow base w v xs) (xv : Value) (us : List Int) (hxv : a.eval x = xv) (hx : USrc w xv us)
    (hm : xs.length + us.length ≤ 10000000) (hbase : base ≤ w.heap.size)
    (h : ∀ v' w', URow base w' v' (xs ++ us) → w.grownBy w' v.ownBlock → (∀ k, v'.ownBlock = some k → v.ownBlock = some k ∨ w.heap.size ≤ k) → K (a.put o.dst v') w') :
    if Region.wanted o (yielded ops a.tmps) = true then Oper.wp Try.prog o a w K Q else E := by
  have hw : Region.wanted o (yielded ops a.tmps) = true := by simp [Region.wanted, hgd]
  rw [if_pos hw]
  obtain ⟨v', w', hr, h2, h3, h4⟩ := run_appU2 (w := w) base o.type v xs hown xv us hx hm hbase
  unfold Oper.wp execOp
  simp only [ho, resolve, invoke, builtin, Sem.run_bind, Sem.run_pure, Result.andThen_ok, List.map_toArray, List.map_cons, List.map_nil, hs, hxv, hr]
  exact h v' w' h2 h3 h4
/-- The cells that a round of the last loop reads. -/
structure RdC (W : World) (b o gt gp gl k t : Nat) (x : It) (q1 q2 : Nat) (l : Bool) : Prop where
  c0 : W.cell? ⟨b, o, none⟩ = some (.int .i64 x.kind)
  c1 : W.cell? ⟨b, o + 1, none⟩ = some (.int .i64 x.ins.op)
  c2 : W.cell? ⟨b, o + 2, none⟩ = some (.int .i64 x.ins.rd)
  c3 : W.cell? ⟨b, o + 3, none⟩ = some (.int .i64 x.ins.s1)
  c4 : W.cell? ⟨b, o + 4, none⟩ = some (.int .i64 x.ins.s2)
  c5 : W.cell? ⟨b, o + 5, none⟩ = some (.int .i64 x.ins.im)
  c6 : W.cell? ⟨b, o + 6, none⟩ = some (.int .i64 x.label)
  tc : W.cell? ⟨gt, k, none⟩ = some (.int .i64 (t : Int))
  p1 : W.cell? ⟨gp, t, none⟩ = some (.int .i64 (4 * ((q2 : Nat) : Int)))
  p2 : W.cell? ⟨gp, k, none⟩ = some (.int .i64 (4 * ((q1 : Nat) : Int)))
  lc : W.cell? ⟨gl, k, none⟩ = some (.bool l)
theorem RdC.below {W W' : World} {b o gt gp gl k t : Nat} {x : It} {q1 q2 : Nat} {l : Bool} (h : RdC W b o gt gp gl k t x q1 q2 l) (hb : Below W.heap.size W W') : RdC W' b o gt gp gl k t x q1 q2 l := by
  have h0 : b < W.heap.size := World.block_lt_of_cell? _ _ h.c0
  have h1 : gt < W.heap.size := World.block_lt_of_cell? _ _ h.tc
  have h2 : gp < W.heap.size := World.block_lt_of_cell? _ _ h.p1
  have h3 : gl < W.heap.size := World.block_lt_of_cell? _ _ h.lc
  exact ⟨(hb.cell (p := ⟨b, o, none⟩) h0).trans h.c0, (hb.cell (p := ⟨b, o + 1, none⟩) h0).trans h.c1, (hb.cell (p := ⟨b, o + 2, none⟩) h0).trans h.c2, (hb.cell (p := ⟨b, o + 3, none⟩) h0).trans h.c3, (hb.cell (p := ⟨b, o + 4, none⟩) h0).trans h.c4, (hb.cell (p := ⟨b, o + 5, none⟩) h0).trans h.c5, (hb.cell (p := ⟨b, o + 6, none⟩) h0).trans h.c6, (hb.cell (p := ⟨gt, k, none⟩) h1).trans h.tc, (hb.cell (p := ⟨gp, t, none⟩) h2).trans h.p1, (hb.cell (p := ⟨gp, k, none⟩) h2).trans h.p2, (hb.cell (p := ⟨gl, k, none⟩) h3).trans h.lc⟩
theorem RdC.grown {W W' : World} {b o gt gp gl k t : Nat} {x : It} {q1 q2 : Nat} {l : Bool} {row : Option Nat} (h : RdC W b o gt gp gl k t x q1 q2 l) (hg : W.grownBy W' row) (h0 : some b ≠ row) (h1 : some gt ≠ row) (h2 : some gp ≠ row) (h3 : some gl ≠ row) : RdC W' b o gt gp gl k t x q1 q2 l :=
  ⟨hg.cell h.c0 h0, hg.cell h.c1 h0, hg.cell h.c2 h0, hg.cell h.c3 h0, hg.cell h.c4 h0, hg.cell h.c5 h0, hg.cell h.c6 h0, hg.cell h.tc h1, hg.cell h.p1 h2, hg.cell h.p2 h2, hg.cell h.lc h3⟩
theorem ORow.grown {B : Nat} {t : TypeId} {w w' : World} {v : Value} {xs : List Value} {row : Option Nat} (h : ORow B t w v xs) (hg : w.grownBy w' row) (hne : ∀ x, v.ownBlock = some x → row ≠ some x) : ORow B t w' v xs :=
  World.ownsRow.kept h hg (by
    cases e : v.ownBlock with
    | none => exact .inl rfl
    | some x => exact .inr (fun h' => hne x e h'.symm))

end Go.Proofs.Ytkbonhbegpiajaa
