import Derived.Test.YtefnijmgdcfhiaaGreatDoorQAF
import Derived.Test.YtefnijmgdcfhiaaGreatDoorQVC
namespace Go.Proofs.YtefnijmgdcfhiaaGreatDoor
open Go.RowKit
set_option linter.unusedVariables false
set_option linter.unusedSimpArgs false

theorem info_str : (Tryz.prog.info? 9).map (fun i => (i.zero, i.size, i.bytes)) = some (some (.string ⟨#[]⟩), 1, 16) := by kernel_rfl
/-- A slice whose cells are these texts. -/
def SSrc (w : World) (v : Value) (us : List ByteArray) : Prop := ∃ a cap, v = .slice a us.length cap ∧ (a = none → us = []) ∧ ∀ ad, a = some ad → ∀ j u, (us.map Value.string)[j]? = some u → w.cell? (ad.add j) = some u
theorem addr_addK (b o j : Nat) : (⟨b, o, none⟩ : Addr).add j = ⟨b, o + j, none⟩ := by simp only [Addr.add]; split <;> simp_all
theorem Strs.src {w : World} {v : Value} {us : List ByteArray} (h : Strs w v us) : SSrc w v us := by
  obtain ⟨a, cap, rfl, -, -, h⟩ := h
  by_cases hp : 0 < us.length
  · obtain ⟨b, off, rfl, hc⟩ := h hp
    refine ⟨_, cap, rfl, (fun h => by cases h), fun ad had j u hj => ?_⟩
    obtain rfl := Option.some.inj had
    have hl : j < us.length := by
      have := (List.getElem?_eq_some_iff.1 hj).1
      simpa using this
    have e : u = .string us[j] := by simpa [hl] using hj.symm
    rw [addr_addK, e]
    exact hc j hl
  · have h0 : us = [] := List.eq_nil_of_length_eq_zero (by omega)
    subst h0
    exact ⟨a, cap, rfl, fun _ => rfl, fun ad _ j u hj => by simp at hj⟩
theorem ssrc_1 (w : World) (x : ByteArray) (t : TypeId) : SSrc (w.alloc (.cells #[.string x] t)) (.slice (some ⟨w.heap.size, 0, none⟩) 1 1) [x] := by
  refine ⟨_, 1, rfl, (fun h => by cases h), fun ad h j u hj => ?_⟩
  obtain rfl := Option.some.inj h
  have hl : j = 0 := by
    have := (List.getElem?_eq_some_iff.1 hj).1
    simp at this
    omega
  subst hl
  simp at hj
  rw [addr_addK, ← hj]
  simp
/-- A row of texts of one's own. -/
def SRow (B : Nat) (w : World) (v : Value) (us : List ByteArray) : Prop := w.ownsRow B 9 1 v us.length (us.map (Value.string))
theorem SRow.shape {B : Nat} {w : World} {v : Value} {us : List ByteArray} (h : SRow B w v us) : ∃ a c, v = .slice a us.length c := by
  rcases h.2 with ⟨rfl, hz⟩ | ⟨g, cap, cur, rfl, _⟩
  · exact ⟨none, 0, by rw [hz]⟩
  · exact ⟨_, cap, rfl⟩
theorem SRow.below {B : Nat} {w w' : World} {v : Value} {us : List ByteArray} (h : SRow B w v us) (hb : Below w.heap.size w w') : SRow B w' v us := by
  obtain ⟨g1, g2⟩ := h
  refine ⟨g1, ?_⟩
  rcases g2 with g2 | ⟨g, cap, cur, rfl, g3, g4, g5⟩
  · exact .inl g2
  · refine .inr ⟨g, cap, cur, rfl, g3, ?_, g5⟩
    rw [hb.block g (Array.getElem?_eq_some_iff.1 g4).1]
    exact g4
theorem SRow.base {B B' : Nat} {w : World} {v : Value} {us : List ByteArray} (h : SRow B w v us) (hb : B' ≤ B) : SRow B' w v us := by
  obtain ⟨g1, g2⟩ := h
  refine ⟨g1, ?_⟩
  rcases g2 with g2 | ⟨g, cap, cur, rfl, g3, g4⟩
  · exact .inl g2
  · exact .inr ⟨g, cap, cur, rfl, Nat.le_trans hb g3, g4⟩
theorem srow_lit (W : World) (B : Nat) (hB : B ≤ W.heap.size) : SRow B (W.alloc (.cells #[] 9)) (.slice (some ⟨W.heap.size, 0, none⟩) 0 0) [] := World.ownsRow_lit W #[] 0 hB (by decide) rfl
theorem run_appS {w : World} (base : Nat) (ty : TypeId) (v : Value) (xs : List ByteArray) (hown : SRow base w v xs) (x : Value) (us : List ByteArray) (hx : SSrc w x us) (hm : xs.length + us.length ≤ 10000000) (hbase : base ≤ w.heap.size) :
    ∃ v' w', (Builtin.append_ #[56, 56] ty #[v, x]).run Tryz.prog w = .ok v' w' ∧ SRow base w' v' (xs ++ us) ∧ w.grownBy w' v.ownBlock ∧ ∀ k, v'.ownBlock = some k → v.ownBlock = some k ∨ w.heap.size ≤ k := by
  obtain ⟨i0, hi, hz0, hz1, hz2⟩ := info_parts info_str
  obtain ⟨a, cap, rfl, h2, h3⟩ := hx
  cases a with
  | none =>
    obtain rfl := h2 rfl
    have hr : (Builtin.append_ #[56, 56] ty #[v, .slice none ([] : List ByteArray).length cap]).run Tryz.prog w = .ok v w := by
      rcases hown.2 with ⟨rfl, hn⟩ | ⟨g, cap', cur, rfl, _, _, hnc, _⟩
      · simp [Builtin.append_, run_underlying Tryz.underlying56, sizeOf, typeInfo, hi, Builtin.lenOf, Builtin.firstCells]
      · simp [Builtin.append_, run_underlying Tryz.underlying56, sizeOf, typeInfo, hi, Builtin.lenOf, Builtin.firstCells, hnc, storeCells]
    exact ⟨v, w, hr, by simpa using hown, ⟨rfl, rfl, rfl, Nat.le_refl _, fun _ _ _ => rfl⟩, fun k hk => .inl hk⟩
  | some ad =>
    obtain ⟨v', w', r1, r2, r3, r4⟩ := app_freshG (P := Tryz.prog) (w := w) base 56 ty 9 i0 _ 1 16 Tryz.underlying56 hi hz0 hz1 hz2 rfl (by decide) v xs.length (xs.map (Value.string)) hown ad us.length cap (us.map (Value.string)) (by simp) (h3 ad rfl) (by intro u hu; simp at hu; obtain ⟨y, _, rfl⟩ := hu; rfl) hm (by decide) hbase
    refine ⟨v', w', r1, ?_, r3, r4⟩
    unfold SRow
    rw [List.length_append, List.map_append]
    exact r2
theorem step_appS {w : World} {ops : Array Oper} {o : Oper} {a : Act} {K : Act → World → Prop} {Q : Exit → Act → World → Prop} {E : Prop} (hgd : o.guard = none) (s x : Operand)
    (ho : o.op = .call { callee := .builtin .append, args := #[s, x], argTypes := #[56, 56] })
    (base : Nat) (v : Value) (xs : List ByteArray) (hs : a.eval s = v) (hown : SRow base w v xs) (xv : Value) (us : List ByteArray) (hxv : a.eval x = xv) (hx : SSrc w xv us)
    (hm : xs.length + us.length ≤ 10000000) (hbase : base ≤ w.heap.size)
    (h : ∀ v' w', SRow base w' v' (xs ++ us) → w.grownBy w' v.ownBlock → (∀ k, v'.ownBlock = some k → v.ownBlock = some k ∨ w.heap.size ≤ k) → K (a.put o.dst v') w') :
    if Region.wanted o (yielded ops a.tmps) = true then Oper.wp Tryz.prog o a w K Q else E := by
  have hw : Region.wanted o (yielded ops a.tmps) = true := by simp [Region.wanted, hgd]
  rw [if_pos hw]
  obtain ⟨v', w', hr, h2, h3, h4⟩ := run_appS (w := w) base o.type v xs hown xv us hx hm hbase
  unfold Oper.wp execOp
  simp only [ho, resolve, invoke, builtin, Sem.run_bind, Sem.run_pure, Result.andThen_ok, List.map_toArray, List.map_cons, List.map_nil, hs, hxv, hr]
  exact h v' w' h2 h3 h4
theorem SRow.strs {B : Nat} {w : World} {v : Value} {us : List ByteArray} (h : SRow B w v us) (hm : us.length ≤ 10000000) : Strs w v us := by
  have h0 := h
  rcases h.2 with ⟨rfl, hz⟩ | ⟨g, cap, cur, rfl, hbg, hh, hc1, hc2, hc3, hc4⟩
  · exact ⟨none, 0, by rw [hz], by omega, by omega, fun h => absurd h (by omega)⟩
  · refine ⟨_, cap, rfl, ?_, ?_, fun _ => ⟨g, 0, rfl, fun j hj => ?_⟩⟩
    · first | omega | exact hc1
    · first | omega | (unfold maxLen at *; omega)
    · have := World.ownsRow.cells h0 (g := g) rfl j (.string us[j]) (by simp [hj])
      rw [addr_addK] at this
      exact this

end Go.Proofs.YtefnijmgdcfhiaaGreatDoor

namespace Go.Proofs.YtefnijmgdcfhiaaGreatDoor
open Go.RowKit
set_option linter.unusedVariables false
set_option linter.unusedSimpArgs false

theorem ssrc_cell {w : World} {b : Nat} {x : ByteArray} (h : w.cell? ⟨b, 0, none⟩ = some (.string x)) : SSrc w (.slice (some ⟨b, 0, none⟩) 1 1) [x] := by
  refine ⟨_, 1, rfl, (fun h => by cases h), fun ad had j u hj => ?_⟩
  obtain rfl := Option.some.inj had
  have hl : j = 0 := by
    have := (List.getElem?_eq_some_iff.1 hj).1
    simp at this
    omega
  subst hl
  simp at hj
  rw [addr_addK, ← hj]
  exact h
/-- Two new blocks of a world: an empty one and one that holds a text, in either order. -/
theorem appA (W : World) (v : Value) (us : List ByteArray) (h : Strs W v us) : SRow W.heap.size (W.drew.alloc (.cells #[] 9)) (.slice (some ⟨W.heap.size, 0, none⟩) 0 0) [] ∧ SSrc (W.drew.alloc (.cells #[] 9)) v us ∧ Below W.heap.size W (W.drew.alloc (.cells #[] 9)) := by
  have hb : Below W.heap.size W (W.drew.alloc (.cells #[] 9)) := ((Below.refl W.heap.size W).drew).alloc (Nat.le_refl _) _
  exact ⟨srow_lit W.drew _ (Nat.le_refl _), (h.below hb).src, hb⟩
theorem appB (W : World) (v : Value) (us : List ByteArray) (x : ByteArray) (h : Strs W v us) : SRow W.heap.size ((W.drew.alloc (.cells #[] 9)).alloc (.cells #[.string x] 9)) (.slice (some ⟨W.heap.size, 0, none⟩) 0 0) [] ∧ SSrc ((W.drew.alloc (.cells #[] 9)).alloc (.cells #[.string x] 9)) v us ∧ Below W.heap.size W ((W.drew.alloc (.cells #[] 9)).alloc (.cells #[.string x] 9)) ∧ ((W.drew.alloc (.cells #[] 9)).alloc (.cells #[.string x] 9)).cell? ⟨W.heap.size + 1, 0, none⟩ = some (.string x) := by
  have hb1 : Below W.heap.size W (W.drew.alloc (.cells #[] 9)) := ((Below.refl W.heap.size W).drew).alloc (Nat.le_refl _) _
  have hb : Below W.heap.size W ((W.drew.alloc (.cells #[] 9)).alloc (.cells #[.string x] 9)) := hb1.alloc hb1.size _
  exact ⟨(srow_lit W.drew _ (Nat.le_refl _)).below ((Below.refl _ _).alloc (Nat.le_refl _) _), (h.below hb).src, hb, (World.cell?_alloc_at _ _ _ _ (by simp)).trans rfl⟩
theorem appC (W : World) (v : Value) (us : List ByteArray) (x : ByteArray) (h : Strs W v us) : SRow W.heap.size ((W.drew.alloc (.cells #[.string x] 9)).alloc (.cells #[] 9)) (.slice (some ⟨W.heap.size + 1, 0, none⟩) 0 0) [] ∧ SSrc ((W.drew.alloc (.cells #[.string x] 9)).alloc (.cells #[] 9)) v us ∧ Below W.heap.size W ((W.drew.alloc (.cells #[.string x] 9)).alloc (.cells #[] 9)) ∧ ((W.drew.alloc (.cells #[.string x] 9)).alloc (.cells #[] 9)).cell? ⟨W.heap.size, 0, none⟩ = some (.string x) := by
  have hb1 : Below W.heap.size W (W.drew.alloc (.cells #[.string x] 9)) := ((Below.refl W.heap.size W).drew).alloc (Nat.le_refl _) _
  have hb : Below W.heap.size W ((W.drew.alloc (.cells #[.string x] 9)).alloc (.cells #[] 9)) := hb1.alloc hb1.size _
  have h1 := srow_lit (W.drew.alloc (.cells #[.string x] 9)) W.heap.size (by simp)
  have e : (W.drew.alloc (.cells #[.string x] 9)).heap.size = W.heap.size + 1 := by simp
  rw [e] at h1
  refine ⟨h1, (h.below hb).src, hb, ?_⟩
  rw [World.cell?_alloc_lt _ _ ⟨W.heap.size, 0, none⟩ (by simp)]
  exact (World.cell?_alloc_at _ _ _ _ (by simp)).trans rfl
/-- Behind an append into a row of its own. -/
theorem appN {W W1 w1 : World} {v : Value} {xs : List ByteArray} (hb : Below W.heap.size W W1) (hr : SRow W.heap.size W1 v xs) (hg : W1.grownBy w1 v.ownBlock) : Below W.heap.size W w1 := hb.grown hg hb.size (fun j hj => (World.ownsRow.lt hr j hj).1)

end Go.Proofs.YtefnijmgdcfhiaaGreatDoor
