import Derived.Test.YtlbdmahkmangbaaGreatDoorQCCI
import Derived.Lib.ConvBytes
import Derived.RegionTactic
import Derived.OwnWalk
import Derived.Laws.OwnMore
namespace Go.Proofs.YtlbdmahkmangbaaGreatDoor
open Go.RowKit
set_option linter.unusedVariables false
set_option linter.unusedSimpArgs false

set_option maxHeartbeats 1000000 in
theorem eqI_any (v1 v2 : Value) (l : List Int) (w : World) (hl : l.length ≤ 100000000) (h1 : Ints w v1 l) (h2 : Ints w v2 l) :
    Calls Tryz.prog 8 #[v1, v2] w fun e w' => e = .returned (.bool true) ∧ Below w.heap.size w w' := by
  obtain ⟨a1, c1, rfl, hc1⟩ := h1
  obtain ⟨a2, c2, rfl, hc2⟩ := h2
  have H1 : Hid (0 < l.length → ∃ b, a1 = some ⟨b, 0, none⟩ ∧ ∀ j (h : j < l.length), w.cell? ⟨b, j, none⟩ = some (.int .i64 l[j])) := hc1
  have H2 : Hid (0 < l.length → ∃ b, a2 = some ⟨b, 0, none⟩ ∧ ∀ j (h : j < l.length), w.cell? ⟨b, j, none⟩ = some (.int .i64 l[j])) := hc2
  clear hc1 hc2
  go_enter Tryz.func8, Tryz.ntmps8
  go_wp2_with fail
  go_loopw [5] (fun i wr => ∃ k : Nat, k ≤ l.length ∧ i = .int .i64 k ∧ Below w.heap.size w wr) (fun i _ => l.length - (RowKit.intOf i).toNat)
  case atStart => exact ⟨0, Nat.zero_le _, rfl, Below.refl _ _⟩
  case round =>
    obtain ⟨k, hk, rfl, hB⟩ := hrel
    by_cases hlt : k < l.length
    · obtain ⟨b1, rfl, hx1⟩ := H1.out (by omega)
      obtain ⟨b2, rfl, hx2⟩ := H2.out (by omega)
      have d1 := hx1 k hlt
      have d2 := hx2 k hlt
      have e1 := (hB.cell (p := ⟨b1, k, none⟩) (World.block_lt_of_cell? _ _ d1)).trans d1
      have e2 := (hB.cell (p := ⟨b2, k, none⟩) (World.block_lt_of_cell? _ _ d2)).trans d2
      clear hx1 hx2 d1 d2
      generalize l[k] = z at e1 e2
      go_wp2_with fail
      go_region
      go_wp2_with fail
      go_roundw
      case rel => exact ⟨k + 1, by omega, by go_num, hB.drew⟩
      case measure => simp [RowKit.intOf]; omega
    · go_wp2_with fail
      go_ret
      exact ⟨rfl, hB⟩

/-- Only block g has turned. -/
structure Tg (g : Nat) (w w' : World) : Prop where
  still : w'.os = w.os ∧ w'.tape = w.tape ∧ w'.output = w.output
  size : w'.heap.size = w.heap.size
  other : ∀ b, b ≠ g → w'.heap[b]? = w.heap[b]?
theorem Tg.refl (g : Nat) (w : World) : Tg g w w := ⟨⟨rfl, rfl, rfl⟩, rfl, fun _ _ => rfl⟩
theorem Tg.set {g : Nat} {w w' : World} (h : Tg g w w') (o : Nat) (v : Value) : Tg g w (w'.setCell ⟨g, o, none⟩ v) := by
  have hs : Below w'.heap.size w' w' := Below.refl _ _
  have hb0 := (Below.refl 0 w').setCell (p := ⟨g, o, none⟩) (Nat.zero_le _) v
  refine ⟨⟨hb0.os.trans h.still.1, hb0.tape.trans h.still.2.1, hb0.output.trans h.still.2.2⟩, by simpa using h.size, fun b hb => ?_⟩
  rw [← h.other b hb]
  exact Below.heap_setCell _ _ _ b (fun h => hb (by simpa using h))
theorem Tg.below {B g : Nat} {w w' : World} (h : Tg g w w') (hg : B ≤ g) : Below B w w' :=
  ⟨h.still.1, h.still.2.1, h.still.2.2, Nat.le_of_eq h.size.symm, fun k hk => h.other k (by omega)⟩
theorem Tg.cell {g : Nat} {w w' : World} (h : Tg g w w') {b o : Nat} (hb : b ≠ g) : w'.cell? ⟨b, o, none⟩ = w.cell? ⟨b, o, none⟩ := World.cell?_of_block (a := ⟨b, o, none⟩) (h.other b hb)
def mkI (q j : Nat) : Value := .int .i64 ((q + j : Nat) : Int)

set_option maxHeartbeats 1000000 in
theorem markI_any (g n cap q : Nat) (w : World) (hn : n ≤ 100000000) (hq : q ≤ 100000000) (h : ∀ j, j < n → (∃ y, w.cell? ⟨g, j, none⟩ = some y) ∧ w.frozen? ⟨g, j, none⟩ = false) :
    Calls Tryz.prog 11 #[.slice (some ⟨g, 0, none⟩) n cap, .int .i64 q] w fun e w' => e = .returned (.int .i64 ((q + n : Nat) : Int)) ∧ Tg g w w' ∧ ∀ j, j < n → w'.cell? ⟨g, j, none⟩ = some (mkI q j) := by
  have H : Hid (∀ j, j < n → (∃ y, w.cell? ⟨g, j, none⟩ = some y) ∧ w.frozen? ⟨g, j, none⟩ = false) := h
  clear h
  go_enter Tryz.func11, Tryz.ntmps11
  go_wp2_with fail
  go_loopw [1, 5] (fun kk i wr => ∃ k : Nat, k ≤ n ∧ i = .int .i64 k ∧ kk = .int .i64 ((q + k : Nat) : Int) ∧ Tg g w wr ∧ (∀ j, j < n → (∃ y, wr.cell? ⟨g, j, none⟩ = some y) ∧ wr.frozen? ⟨g, j, none⟩ = false) ∧ ∀ j, j < k → wr.cell? ⟨g, j, none⟩ = some (mkI q j)) (fun _ i _ => n - (RowKit.intOf i).toNat)
  case atStart => exact ⟨0, Nat.zero_le _, rfl, rfl, Tg.refl _ _, H.out, fun j hj => absurd hj (by omega)⟩
  case round =>
    obtain ⟨k, hk, rfl, rfl, hT, hO, hM⟩ := hrel
    have HO : Hid (∀ j, j < n → (∃ y, wr.cell? ⟨g, j, none⟩ = some y) ∧ wr.frozen? ⟨g, j, none⟩ = false) := hO
    have HM : Hid (∀ j, j < k → wr.cell? ⟨g, j, none⟩ = some (mkI q j)) := hM
    clear hO hM
    by_cases hlt : k < n
    · obtain ⟨⟨y, hy⟩, hfz⟩ := HO.out k hlt
      obtain ⟨z, hz⟩ : ∃ z : Int, z = ((q + k : Nat) : Int) := ⟨_, rfl⟩
      have HZ : Hid (z = ((q + k : Nat) : Int)) := hz
      rw [← hz]
      have hz0 : 0 ≤ z := by omega
      have hz1 : z ≤ 200000000 := by omega
      clear hz
      go_wp2_with fail
      go_roundw
      case rel =>
        refine ⟨k + 1, by omega, by go_num, by rw [HZ.out]; go_num, hT.set _ _, fun j hj => ?_, fun j hj => ?_⟩
        · by_cases e : j = k
          · subst e
            exact ⟨⟨_, World.cell?_setCell_same _ _ _ hy⟩, (World.frozen?_setCell _ _ _ _).trans hfz⟩
          · obtain ⟨⟨y', hy'⟩, hf'⟩ := HO.out j hj
            exact ⟨⟨y', by rw [World.cell?_setCell_other _ _ _ _ (by intro h; simp only [Addr.mk.injEq] at h; omega)]; exact hy'⟩, (World.frozen?_setCell _ _ _ _).trans hf'⟩
        · by_cases e : j = k
          · subst e
            rw [World.cell?_setCell_same _ _ _ hy, HZ.out]
            rfl
          · rw [World.cell?_setCell_other _ _ _ _ (by intro h; simp only [Addr.mk.injEq] at h; omega)]
            exact HM.out j (by omega)
      case measure => simp [RowKit.intOf]; omega
    · obtain rfl : k = n := by omega
      go_wp2_with fail
      go_ret
      exact ⟨rfl, hT, HM.out⟩

set_option maxHeartbeats 1000000 in
theorem heldI_any (g n cap q : Nat) (w : World) (hn : n ≤ 100000000) (hq : q ≤ 100000000) (h : ∀ j, j < n → w.cell? ⟨g, j, none⟩ = some (mkI q j)) :
    Calls Tryz.prog 12 #[.slice (some ⟨g, 0, none⟩) n cap, .int .i64 q] w fun e w' => e = .returned (.int .i64 ((q + n : Nat) : Int)) ∧ Below w.heap.size w w' := by
  have H : Hid (∀ j, j < n → w.cell? ⟨g, j, none⟩ = some (mkI q j)) := h
  clear h
  go_enter Tryz.func12, Tryz.ntmps12
  go_wp2_with fail
  go_loopw [1, 5] (fun kk i wr => ∃ k : Nat, k ≤ n ∧ i = .int .i64 k ∧ kk = .int .i64 ((q + k : Nat) : Int) ∧ wr = w) (fun _ i _ => n - (RowKit.intOf i).toNat)
  case atStart => exact ⟨0, Nat.zero_le _, rfl, rfl, rfl⟩
  case round =>
    obtain ⟨k, hk, rfl, rfl, rfl⟩ := hrel
    by_cases hlt : k < n
    · have hc : wr.cell? ⟨g, k, none⟩ = some (.int .i64 ((q + k : Nat) : Int)) := H.out k hlt
      obtain ⟨z, hz⟩ : ∃ z : Int, z = ((q + k : Nat) : Int) := ⟨_, rfl⟩
      have HZ : Hid (z = ((q + k : Nat) : Int)) := hz
      rw [← hz] at hc ⊢
      have hz0 : 0 ≤ z := by omega
      have hz1 : z ≤ 200000000 := by omega
      clear hz
      go_wp2_with fail
      go_roundw
      case rel => exact ⟨k + 1, by omega, by go_num, by rw [HZ.out]; go_num, trivial⟩
      case measure => simp [RowKit.intOf]; omega
    · obtain rfl : k = n := by omega
      go_wp2_with fail
      go_ret
      exact ⟨rfl, Below.refl _ _⟩

theorem rowi_cell {w : World} {g i : Nat} {cur : Array Value} {t : TypeId} (hg : w.heap[g]? = some (.cells cur t (0, 0))) (hi : i < cur.size) : w.cell? ⟨g, i, none⟩ = some cur[i] ∧ w.frozen? ⟨g, i, none⟩ = false := by
  refine ⟨?_, frozen_of_row w g i cur t hg⟩
  rw [cell_of_row w g i cur t (0, 0) hg]
  simp [hi]
/-- A row of numbers is marked from 1 on. -/
def Mkd (w : World) (v : Value) (n : Nat) : Prop := (v = .slice none 0 0 ∧ n = 0) ∨ ∃ g cap, v = .slice (some ⟨g, 0, none⟩) n cap ∧ ∀ j, j < n → w.cell? ⟨g, j, none⟩ = some (mkI 1 j)

set_option maxHeartbeats 1000000 in
theorem markNil (w : World) : Calls Tryz.prog 11 #[.slice none 0 0, .int .i64 1] w fun e w' => e = .returned (.int .i64 1) ∧ w' = w := by
  go_enter Tryz.func11, Tryz.ntmps11
  go_wp2_with fail
  refine wp_loop_rounds 1 ?_
  rw [rounds_succ]
  go_wp2_with fail
  go_ret
  exact ⟨rfl, rfl⟩
set_option maxHeartbeats 1000000 in
theorem heldNil (w : World) : Calls Tryz.prog 12 #[.slice none 0 0, .int .i64 1] w fun e w' => e = .returned (.int .i64 1) ∧ w' = w := by
  go_enter Tryz.func12, Tryz.ntmps12
  go_wp2_with fail
  refine wp_loop_rounds 1 ?_
  rw [rounds_succ]
  go_wp2_with fail
  go_ret
  exact ⟨rfl, rfl⟩
theorem markO_any {w : World} {N : Nat} {v : Value} {n : Nat} {xs : List Value} (hn : n ≤ 100000000) (hown : w.ownsRow N 2 1 v n xs) :
    Calls Tryz.prog 11 #[v, .int .i64 1] w fun e w' => e = .returned (.int .i64 ((1 + n : Nat) : Int)) ∧ Below N w w' ∧ Mkd w' v n := by
  obtain ⟨g1, g2⟩ := hown
  rcases g2 with ⟨rfl, rfl⟩ | ⟨g, cap, cur, rfl, hg, hh, hc1, hc2, hc3, hc4⟩
  · refine (markNil w).mono ?_
    rintro e w' ⟨rfl, rfl⟩
    exact ⟨rfl, Below.refl _ _, .inl ⟨rfl, rfl⟩⟩
  · have h : ∀ j, j < n → (∃ y, w.cell? ⟨g, j, none⟩ = some y) ∧ w.frozen? ⟨g, j, none⟩ = false := fun j hj => by
      have hi : j < cur.size := by omega
      have := rowi_cell hh hi
      exact ⟨⟨_, this.1⟩, this.2⟩
    refine (markI_any g n cap 1 w hn (by omega) h).mono ?_
    rintro e w' ⟨rfl, hT, hM⟩
    exact ⟨rfl, hT.below hg, .inr ⟨g, cap, rfl, hM⟩⟩
theorem heldO_any {w : World} {v : Value} {n : Nat} (hn : n ≤ 100000000) (hM : Mkd w v n) :
    Calls Tryz.prog 12 #[v, .int .i64 1] w fun e w' => e = .returned (.int .i64 ((1 + n : Nat) : Int)) ∧ Below w.heap.size w w' := by
  rcases hM with ⟨rfl, rfl⟩ | ⟨g, cap, rfl, hM⟩
  · refine (heldNil w).mono ?_
    rintro e w' ⟨rfl, rfl⟩
    exact ⟨rfl, Below.refl _ _⟩
  · exact heldI_any g n cap 1 w hn (by omega) hM

end Go.Proofs.YtlbdmahkmangbaaGreatDoor
