import Derived.Test.YtkbonhbegpiajaaAS0
import Derived.WalkKit
import Derived.WalkSpells
import Derived.Below
import Derived.Laws.OwnMore
import Derived.Test.YtkbonhbegpiajaaProg
import Derived.RegionTactic
namespace Go.Proofs.Ytkbonhbegpiajaa
open Go.RowKit
set_option linter.unusedVariables false
set_option linter.unusedSimpArgs false

/-- Only block g has turned. -/
structure Tg (g : Nat) (w w' : World) : Prop where
  still : w'.os = w.os ∧ w'.tape = w.tape ∧ w'.output = w.output
  size : w'.heap.size = w.heap.size
  other : ∀ b, b ≠ g → w'.heap[b]? = w.heap[b]?
theorem Tg.refl (g : Nat) (w : World) : Tg g w w := ⟨⟨rfl, rfl, rfl⟩, rfl, fun _ _ => rfl⟩
theorem Tg.trans {g : Nat} {w w1 w2 : World} (h : Tg g w w1) (k : Tg g w1 w2) : Tg g w w2 := ⟨⟨k.still.1.trans h.still.1, k.still.2.1.trans h.still.2.1, k.still.2.2.trans h.still.2.2⟩, k.size.trans h.size, fun b hb => (k.other b hb).trans (h.other b hb)⟩
theorem Tg.set {g : Nat} {w w' : World} (h : Tg g w w') (o : Nat) (v : Value) : Tg g w (w'.setCell ⟨g, o, none⟩ v) := by
  have hb0 := (Below.refl 0 w').setCell (p := ⟨g, o, none⟩) (Nat.zero_le _) v
  refine ⟨⟨hb0.os.trans h.still.1, hb0.tape.trans h.still.2.1, hb0.output.trans h.still.2.2⟩, by simpa using h.size, fun b hb => ?_⟩
  rw [← h.other b hb]
  exact Below.heap_setCell _ _ _ b (fun h => hb (by simpa using h))
theorem Tg.below {B g : Nat} {w w' : World} (h : Tg g w w') (hg : B ≤ g) : Below B w w' :=
  ⟨h.still.1, h.still.2.1, h.still.2.2, Nat.le_of_eq h.size.symm, fun k hk => h.other k (by omega)⟩
theorem Tg.cell {g : Nat} {w w' : World} (h : Tg g w w') {b o : Nat} (hb : b ≠ g) : w'.cell? ⟨b, o, none⟩ = w.cell? ⟨b, o, none⟩ := World.cell?_of_block (a := ⟨b, o, none⟩) (h.other b hb)

/-- The ten cells of a piece. -/
def pcs (it : It) (a : Int) (v : Value) (l : Bool) : List Value := [.int .i64 it.kind, .int .i64 it.ins.op, .int .i64 it.ins.rd, .int .i64 it.ins.s1, .int .i64 it.ins.s2, .int .i64 it.ins.im, .int .i64 it.label, .int .i64 a, v, .bool l]
/-- A row of pieces. -/
def PRow (w : World) (g n : Nat) (its : List It) (A : Nat → Int) (G : Nat → Value) (L : Nat → Bool) : Prop := ∀ i, i < n → ∀ k, k < 10 → w.cell? ⟨g, i * 10 + k, none⟩ = (pcs (its.getD i it0) (A i) (G i) (L i))[k]? ∧ w.frozen? ⟨g, i * 10 + k, none⟩ = false
theorem PRow.below {w w' : World} {g n : Nat} {its : List It} {A : Nat → Int} {G : Nat → Value} {L : Nat → Bool} (h : PRow w g n its A G L) (hg : g < w.heap.size) (hb : Below w.heap.size w w') : PRow w' g n its A G L := by
  intro i hi k hk
  obtain ⟨h1, h2⟩ := h i hi k hk
  exact ⟨(hb.cell (p := ⟨g, i * 10 + k, none⟩) hg).trans h1, (hb.frozen (p := ⟨g, i * 10 + k, none⟩) hg).trans h2⟩
def upd {α : Type} (f : Nat → α) (i : Nat) (x : α) : Nat → α := fun j => if j = i then x else f j
theorem upd_same {α : Type} (f : Nat → α) (i : Nat) (x : α) : upd f i x i = x := if_pos rfl
theorem upd_other {α : Type} (f : Nat → α) (i j : Nat) (x : α) (h : j ≠ i) : upd f i x j = f j := if_neg h
theorem PRow.store {w : World} {g n : Nat} {its : List It} {A A' : Nat → Int} {G G' : Nat → Value} {L L' : Nat → Bool} (h : PRow w g n its A G L) (i c : Nat) (hi : i < n) (hc : c < 10) (u : Value)
    (ho : ∀ j, j ≠ i → A' j = A j ∧ G' j = G j ∧ L' j = L j) (hs : ∀ k, k < 10 → (pcs (its.getD i it0) (A' i) (G' i) (L' i))[k]? = if k = c then some u else (pcs (its.getD i it0) (A i) (G i) (L i))[k]?) :
    PRow (w.setCell ⟨g, i * 10 + c, none⟩ u) g n its A' G' L' := by
  intro j hj k hk
  obtain ⟨h1, h2⟩ := h j hj k hk
  refine ⟨?_, (World.frozen?_setCell _ _ _ _).trans h2⟩
  by_cases e : j = i
  · subst e
    rw [hs k hk]
    by_cases ek : k = c
    · subst ek
      rw [if_pos rfl]
      have hl : (pcs (its.getD j it0) (A j) (G j) (L j)).length = 10 := rfl
      rw [List.getElem?_eq_getElem (by omega)] at h1
      exact World.cell?_setCell_same _ _ _ h1
    · rw [if_neg ek, World.cell?_setCell_other _ _ _ _ (by intro h; simp only [Addr.mk.injEq] at h; omega)]
      exact h1
  · obtain ⟨e1, e2, e3⟩ := ho j e
    rw [e1, e2, e3, World.cell?_setCell_other _ _ _ _ (by intro h; simp only [Addr.mk.injEq] at h; omega)]
    exact h1
theorem PRow.at {w : World} {g n : Nat} {its : List It} {A : Nat → Int} {G : Nat → Value} {L : Nat → Bool} (h : PRow w g n its A G L) (i : Nat) (hi : i < n) (x : Int) : PRow (w.setCell ⟨g, i * 10 + 7, none⟩ (.int .i64 x)) g n its (upd A i x) G L := by
  refine h.store i 7 hi (by omega) _ (fun j hj => ⟨upd_other _ _ _ _ hj, rfl, rfl⟩) (fun k hk => ?_)
  rw [upd_same]
  match k, hk with
  | 0, _ | 1, _ | 2, _ | 3, _ | 4, _ | 5, _ | 6, _ | 7, _ | 8, _ | 9, _ => rfl
theorem PRow.goal {w : World} {g n : Nat} {its : List It} {A : Nat → Int} {G : Nat → Value} {L : Nat → Bool} (h : PRow w g n its A G L) (i : Nat) (hi : i < n) (x : Value) : PRow (w.setCell ⟨g, i * 10 + 8, none⟩ x) g n its A (upd G i x) L := by
  refine h.store i 8 hi (by omega) _ (fun j hj => ⟨rfl, upd_other _ _ _ _ hj, rfl⟩) (fun k hk => ?_)
  rw [upd_same]
  match k, hk with
  | 0, _ | 1, _ | 2, _ | 3, _ | 4, _ | 5, _ | 6, _ | 7, _ | 8, _ | 9, _ => rfl
theorem PRow.long {w : World} {g n : Nat} {its : List It} {A : Nat → Int} {G : Nat → Value} {L : Nat → Bool} (h : PRow w g n its A G L) (i : Nat) (hi : i < n) (x : Bool) : PRow (w.setCell ⟨g, i * 10 + 9, none⟩ (.bool x)) g n its A G (upd L i x) := by
  refine h.store i 9 hi (by omega) _ (fun j hj => ⟨rfl, rfl, upd_other _ _ _ _ hj⟩) (fun k hk => ?_)
  rw [upd_same]
  match k, hk with
  | 0, _ | 1, _ | 2, _ | 3, _ | 4, _ | 5, _ | 6, _ | 7, _ | 8, _ | 9, _ => rfl
/-- The cells of one piece. -/
structure Pc (w : World) (b o : Nat) (it : It) (a : Int) (v : Value) (l : Bool) : Prop where
  c0 : w.cell? ⟨b, o, none⟩ = some (.int .i64 it.kind)
  c1 : w.cell? ⟨b, o + 1, none⟩ = some (.int .i64 it.ins.op)
  c2 : w.cell? ⟨b, o + 2, none⟩ = some (.int .i64 it.ins.rd)
  c3 : w.cell? ⟨b, o + 3, none⟩ = some (.int .i64 it.ins.s1)
  c4 : w.cell? ⟨b, o + 4, none⟩ = some (.int .i64 it.ins.s2)
  c5 : w.cell? ⟨b, o + 5, none⟩ = some (.int .i64 it.ins.im)
  c6 : w.cell? ⟨b, o + 6, none⟩ = some (.int .i64 it.label)
  c7 : w.cell? ⟨b, o + 7, none⟩ = some (.int .i64 a)
  c8 : w.cell? ⟨b, o + 8, none⟩ = some v
  c9 : w.cell? ⟨b, o + 9, none⟩ = some (.bool l)
theorem PRow.pc {w : World} {g n : Nat} {its : List It} {A : Nat → Int} {G : Nat → Value} {L : Nat → Bool} (h : PRow w g n its A G L) (i : Nat) (hi : i < n) : Pc w g (i * 10) (its.getD i it0) (A i) (G i) (L i) :=
  ⟨(h i hi 0 (by omega)).1, (h i hi 1 (by omega)).1, (h i hi 2 (by omega)).1, (h i hi 3 (by omega)).1, (h i hi 4 (by omega)).1, (h i hi 5 (by omega)).1, (h i hi 6 (by omega)).1, (h i hi 7 (by omega)).1, (h i hi 8 (by omega)).1, (h i hi 9 (by omega)).1⟩
theorem PRow.free {w : World} {g n : Nat} {its : List It} {A : Nat → Int} {G : Nat → Value} {L : Nat → Bool} (h : PRow w g n its A G L) (i : Nat) (hi : i < n) (k : Nat) (hk : k < 10) : w.frozen? ⟨g, i * 10 + k, none⟩ = false := (h i hi k hk).2

set_option maxHeartbeats 1000000 in
theorem words_any (b o : Nat) (it : It) (a : Int) (v : Value) (l : Bool) (w : World) (h : Pc w b o it a v l) :
    Calls Try.prog 42 #[.pointer (some ⟨b, o, none⟩)] w fun e w' => e = .returned (.int .i64 ((szB it l : Nat) : Int)) ∧ w' = w := by
  have c0 := h.c0
  have c9 := h.c9
  clear h
  obtain ⟨kd, ins, lab⟩ := it
  simp only at c0
  by_cases hk : kd = 2
  · subst hk
    rw [show szB ⟨2, ins, lab⟩ l = 0 from rfl]
    go_enter Try.func42, Try.ntmps42
    go_wp2_with fail
    go_ret
    exact ⟨rfl, rfl⟩
  · cases l
    · rw [show szB ⟨kd, ins, lab⟩ false = 1 by simp [szB, hk]]
      go_enter Try.func42, Try.ntmps42
      go_wp2_with fail
      go_ret
      exact ⟨rfl, rfl⟩
    · rw [show szB ⟨kd, ins, lab⟩ true = 2 by simp [szB, hk]]
      go_enter Try.func42, Try.ntmps42
      go_wp2_with fail
      go_ret
      exact ⟨rfl, rfl⟩
set_option maxHeartbeats 1000000 in
theorem dist_any (b o b2 o2 : Nat) (it it2 : It) (a a2 : Int) (v2 : Value) (l l2 : Bool) (w : World) (h : Pc w b o it a (.pointer (some ⟨b2, o2, none⟩)) l) (h2 : Pc w b2 o2 it2 a2 v2 l2) (ha : 0 ≤ a ∧ a ≤ 1000000000) (ha2 : 0 ≤ a2 ∧ a2 ≤ 1000000000) :
    Calls Try.prog 36 #[.pointer (some ⟨b, o, none⟩)] w fun e w' => e = .returned (.int .i64 (a2 - a)) ∧ Below w.heap.size w w' := by
  have c8 := h.c8
  have c7 := h.c7
  have d7 := h2.c7
  clear h h2
  go_enter Try.func36, Try.ntmps36
  go_wp2_with fail
  go_region
  go_wp2_with fail
  go_ret
  exact ⟨rfl, (Below.refl _ _).drew⟩
set_option maxHeartbeats 1000000 in
theorem far_any (b o b2 o2 : Nat) (it it2 : It) (a a2 : Int) (v2 : Value) (l l2 : Bool) (w : World) (h : Pc w b o it a (.pointer (some ⟨b2, o2, none⟩)) l) (h2 : Pc w b2 o2 it2 a2 v2 l2) (ha : 0 ≤ a ∧ a ≤ 1000000000) (ha2 : 0 ≤ a2 ∧ a2 ≤ 1000000000) :
    Calls Try.prog 43 #[.pointer (some ⟨b, o, none⟩)] w fun e w' => e = .returned (.bool (!reach (a2 - a))) ∧ Below w.heap.size w w' := by
  have H : Hid (Pc w b o it a (.pointer (some ⟨b2, o2, none⟩)) l) := h
  have H2 : Hid (Pc w b2 o2 it2 a2 v2 l2) := h2
  clear h h2
  go_enter Try.func43, Try.ntmps43
  go_wp2_with fail
  refine (dist_any b o b2 o2 it it2 a a2 v2 l l2 w H.out H2.out ha ha2).mono ?_
  rintro e w1 ⟨rfl, hb1⟩
  obtain ⟨d, hd⟩ : ∃ d, d = a2 - a := ⟨_, rfl⟩
  have HD : Hid (d = a2 - a) := hd
  rw [← hd]
  clear hd
  by_cases h1 : d < -4096
  · have HR : Hid (reach d = false) := decide_eq_false (by omega)
    go_wp2_with fail
    go_ret
    exact ⟨by rw [← HD.out, HR.out]; rfl, hb1⟩
  · by_cases h3 : 4094 < d
    · have HR : Hid (reach d = false) := decide_eq_false (by omega)
      go_wp2_with fail
      go_ret
      exact ⟨by rw [← HD.out, HR.out]; rfl, hb1⟩
    · have HR : Hid (reach d = true) := decide_eq_true (by omega)
      have e1 : decide (d < -4096) = false := decide_eq_false h1
      have e2 : decide (4094 < d) = false := decide_eq_false h3
      go_wp2_with fail
      go_ret
      refine ⟨?_, hb1⟩
      rw [← HD.out, HR.out]
      rfl

end Go.Proofs.Ytkbonhbegpiajaa
