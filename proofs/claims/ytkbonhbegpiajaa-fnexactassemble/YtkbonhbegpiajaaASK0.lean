import Derived.Test.YtkbonhbegpiajaaASJ0
import Derived.Lib.ConvBytes
import Derived.RegionTactic
import Derived.OwnWalk
import Derived.Laws.OwnMore
namespace Go.Proofs.Ytkbonhbegpiajaa
open Go.RowKit
set_option linter.unusedVariables false
set_option linter.unusedSimpArgs false
set_option linter.unusedSectionVars false
variable [Inhabited Pick]

/-- A slice of words. -/
def Uc (w : World) (v : Value) (l : List Int) : Prop := ∃ a cap, v = .slice a l.length cap ∧ (0 < l.length → ∃ b, a = some ⟨b, 0, none⟩ ∧ ∀ j (h : j < l.length), w.cell? ⟨b, j, none⟩ = some (.int .u32 l[j]))
theorem Uc.below {w w' : World} {v : Value} {l : List Int} (h : Uc w v l) (hb : Below w.heap.size w w') : Uc w' v l := by
  obtain ⟨a, cap, rfl, h⟩ := h
  refine ⟨a, cap, rfl, fun h0 => ?_⟩
  obtain ⟨b, rfl, hc⟩ := h h0
  exact ⟨b, rfl, fun j hj => (hb.cell (p := ⟨b, j, none⟩) (World.block_lt_of_cell? _ _ (hc j hj))).trans (hc j hj)⟩

set_option maxHeartbeats 1000000 in
theorem eqU_any (v1 v2 : Value) (l : List Int) (w : World) (hl : l.length ≤ 100000000) (h1 : Uc w v1 l) (h2 : Uc w v2 l) :
    Calls Try.prog 8 #[v1, v2] w fun e w' => e = .returned (.bool true) ∧ Below w.heap.size w w' := by
  obtain ⟨a1, c1, rfl, hc1⟩ := h1
  obtain ⟨a2, c2, rfl, hc2⟩ := h2
  have H1 : Hid (0 < l.length → ∃ b, a1 = some ⟨b, 0, none⟩ ∧ ∀ j (h : j < l.length), w.cell? ⟨b, j, none⟩ = some (.int .u32 l[j])) := hc1
  have H2 : Hid (0 < l.length → ∃ b, a2 = some ⟨b, 0, none⟩ ∧ ∀ j (h : j < l.length), w.cell? ⟨b, j, none⟩ = some (.int .u32 l[j])) := hc2
  clear hc1 hc2
  go_enter Try.func8, Try.ntmps8
  go_wp2_with fail
  go_loopw [5] (fun i wr => ∃ k : Nat, k ≤ l.length ∧ i = .int .i64 k ∧ Below w.heap.size w wr) (fun i _ => l.length - (intOf i).toNat)
  case atStart => exact ⟨0, Nat.zero_le _, rfl, Below.refl _ _⟩
  case round =>
    obtain ⟨k, hk, rfl, hB⟩ := hrel
    by_cases hlt : k < l.length
    · obtain ⟨b1, rfl, hx1⟩ := H1.out (by omega)
      obtain ⟨b2, rfl, hx2⟩ := H2.out (by omega)
      have d1 := hx1 k hlt
      have d2 := hx2 k hlt
      have e1 := (hB.cell (p := ⟨b1, k, none⟩) (World.block_lt_of_cell? _ _ d1)).trans d1
      have e2 := (hB.cell (p := ⟨b2, k, none⟩) (World.block_lt_of_cell? _ _ d2)).trans d2
      clear hx1 hx2 d1 d2
      generalize l[k] = z at e1 e2
      go_wp2_with fail
      go_region
      go_wp2_with fail
      go_roundw
      case rel => exact ⟨k + 1, by omega, by go_num, hB.drew⟩
      case measure => simp [intOf]; omega
    · go_wp2_with fail
      go_ret
      exact ⟨rfl, hB⟩

def mkU (q j : Nat) : Value := .int .u32 ((q + j : Nat) : Int)

set_option maxHeartbeats 1000000 in
theorem markU_any (g n cap q : Nat) (w : World) (hn : n ≤ 100000000) (hq : q ≤ 100000000) (h : ∀ j, j < n → (∃ y, w.cell? ⟨g, j, none⟩ = some y) ∧ w.frozen? ⟨g, j, none⟩ = false) :
    Calls Try.prog 11 #[.slice (some ⟨g, 0, none⟩) n cap, .int .i64 q] w fun e w' => e = .returned (.int .i64 ((q + n : Nat) : Int)) ∧ Tg g w w' ∧ ∀ j, j < n → w'.cell? ⟨g, j, none⟩ = some (mkU q j) := by
  have H : Hid (∀ j, j < n → (∃ y, w.cell? ⟨g, j, none⟩ = some y) ∧ w.frozen? ⟨g, j, none⟩ = false) := h
  clear h
  go_enter Try.func11, Try.ntmps11
  go_wp2_with fail
  go_loopw [1, 5] (fun kk i wr => ∃ k : Nat, k ≤ n ∧ i = .int .i64 k ∧ kk = .int .i64 ((q + k : Nat) : Int) ∧ Tg g w wr ∧ (∀ j, j < n → (∃ y, wr.cell? ⟨g, j, none⟩ = some y) ∧ wr.frozen? ⟨g, j, none⟩ = false) ∧ ∀ j, j < k → wr.cell? ⟨g, j, none⟩ = some (mkU q j)) (fun _ i _ => n - (intOf i).toNat)
  case atStart => exact ⟨0, Nat.zero_le _, rfl, rfl, Tg.refl _ _, H.out, fun j hj => absurd hj (by omega)⟩
  case round =>
    obtain ⟨k, hk, rfl, rfl, hT, hO, hM⟩ := hrel
    have HO : Hid (∀ j, j < n → (∃ y, wr.cell? ⟨g, j, none⟩ = some y) ∧ wr.frozen? ⟨g, j, none⟩ = false) := hO
    have HM : Hid (∀ j, j < k → wr.cell? ⟨g, j, none⟩ = some (mkU q j)) := hM
    clear hO hM
    by_cases hlt : k < n
    · obtain ⟨⟨y, hy⟩, hfz⟩ := HO.out k hlt
      obtain ⟨z, hz⟩ : ∃ z : Int, z = ((q + k : Nat) : Int) := ⟨_, rfl⟩
      have HZ : Hid (z = ((q + k : Nat) : Int)) := hz
      rw [← hz]
      have hz0 : 0 ≤ z := by omega
      have hz1 : z ≤ 200000000 := by omega
      clear hz
      go_wp2_with fail
      go_roundw
      case rel =>
        refine ⟨k + 1, by omega, by go_num, by rw [HZ.out]; go_num, hT.set _ _, fun j hj => ?_, fun j hj => ?_⟩
        · by_cases e : j = k
          · subst e
            exact ⟨⟨_, World.cell?_setCell_same _ _ _ hy⟩, (World.frozen?_setCell _ _ _ _).trans hfz⟩
          · obtain ⟨⟨y', hy'⟩, hf'⟩ := HO.out j hj
            exact ⟨⟨y', by rw [World.cell?_setCell_other _ _ _ _ (by intro h; simp only [Addr.mk.injEq] at h; omega)]; exact hy'⟩, (World.frozen?_setCell _ _ _ _).trans hf'⟩
        · by_cases e : j = k
          · subst e
            rw [World.cell?_setCell_same _ _ _ hy, HZ.out]
            rfl
          · rw [World.cell?_setCell_other _ _ _ _ (by intro h; simp only [Addr.mk.injEq] at h; omega)]
            exact HM.out j (by omega)
      case measure => simp [intOf]; omega
    · obtain rfl : k = n := by omega
      go_wp2_with fail
      go_ret
      exact ⟨rfl, hT, HM.out⟩

set_option maxHeartbeats 1000000 in
theorem heldU_any (g n cap q : Nat) (w : World) (hn : n ≤ 100000000) (hq : q ≤ 100000000) (h : ∀ j, j < n → w.cell? ⟨g, j, none⟩ = some (mkU q j)) :
    Calls Try.prog 12 #[.slice (some ⟨g, 0, none⟩) n cap, .int .i64 q] w fun e w' => e = .returned (.int .i64 ((q + n : Nat) : Int)) ∧ Below w.heap.size w w' := by
  have H : Hid (∀ j, j < n → w.cell? ⟨g, j, none⟩ = some (mkU q j)) := h
  clear h
  go_enter Try.func12, Try.ntmps12
  go_wp2_with fail
  go_loopw [1, 5] (fun kk i wr => ∃ k : Nat, k ≤ n ∧ i = .int .i64 k ∧ kk = .int .i64 ((q + k : Nat) : Int) ∧ wr = w) (fun _ i _ => n - (intOf i).toNat)
  case atStart => exact ⟨0, Nat.zero_le _, rfl, rfl, rfl⟩
  case round =>
    obtain ⟨k, hk, rfl, rfl, rfl⟩ := hrel
    by_cases hlt : k < n
    · have hc : wr.cell? ⟨g, k, none⟩ = some (.int .u32 ((q + k : Nat) : Int)) := H.out k hlt
      obtain ⟨z, hz⟩ : ∃ z : Int, z = ((q + k : Nat) : Int) := ⟨_, rfl⟩
      have HZ : Hid (z = ((q + k : Nat) : Int)) := hz
      rw [← hz] at hc ⊢
      have hz0 : 0 ≤ z := by omega
      have hz1 : z ≤ 200000000 := by omega
      clear hz
      go_wp2_with fail
      go_roundw
      case rel => exact ⟨k + 1, by omega, by go_num, by rw [HZ.out]; go_num, trivial⟩
      case measure => simp [intOf]; omega
    · obtain rfl : k = n := by omega
      go_wp2_with fail
      go_ret
      exact ⟨rfl, Below.refl _ _⟩

theorem URow.cel {w : World} {N : Nat} {v : Value} {l : List Int} (h : URow N w v l) : Uc w v l := by
  have h0 := h
  obtain ⟨hl, h⟩ := h
  rcases h with ⟨rfl, hz⟩ | ⟨g, cap, cur, rfl, hg, hh, hc1, hc2, hc3, hc4⟩
  · exact ⟨none, 0, by rw [hz], fun h => absurd h (by omega)⟩
  · refine ⟨_, cap, rfl, fun _ => ⟨g, rfl, fun j hj => ?_⟩⟩
    have := World.ownsRow.cells h0 (g := g) rfl j (.int .u32 l[j]) (by simp [hj])
    have e : (⟨g, 0, none⟩ : Addr).add j = ⟨g, j, none⟩ := by simp only [Addr.add]; split <;> simp_all
    rw [e] at this
    exact this
theorem uc_out (w : World) (g c : Nat) : Uc w (.slice (some ⟨g, 0, none⟩) 0 c) [] := ⟨_, c, rfl, fun h => absurd h (by simp)⟩
theorem rowu_cell {w : World} {g i : Nat} {cur : Array Value} {t : TypeId} (hg : w.heap[g]? = some (.cells cur t (0, 0))) (hi : i < cur.size) : w.cell? ⟨g, i, none⟩ = some cur[i] ∧ w.frozen? ⟨g, i, none⟩ = false := by
  refine ⟨?_, frozen_of_row w g i cur t hg⟩
  rw [cell_of_row w g i cur t (0, 0) hg]
  simp [hi]
/-- A row of words is marked from 1 on. -/
def Mkd (w : World) (v : Value) (n : Nat) : Prop := (v = .slice none 0 0 ∧ n = 0) ∨ ∃ g cap, v = .slice (some ⟨g, 0, none⟩) n cap ∧ ∀ j, j < n → w.cell? ⟨g, j, none⟩ = some (mkU 1 j)

set_option maxHeartbeats 1000000 in
theorem markNil (w : World) : Calls Try.prog 11 #[.slice none 0 0, .int .i64 1] w fun e w' => e = .returned (.int .i64 1) ∧ w' = w := by
  go_enter Try.func11, Try.ntmps11
  go_wp2_with fail
  refine wp_loop_rounds 1 ?_
  rw [rounds_succ]
  go_wp2_with fail
  go_ret
  exact ⟨rfl, rfl⟩
set_option maxHeartbeats 1000000 in
theorem heldNil (w : World) : Calls Try.prog 12 #[.slice none 0 0, .int .i64 1] w fun e w' => e = .returned (.int .i64 1) ∧ w' = w := by
  go_enter Try.func12, Try.ntmps12
  go_wp2_with fail
  refine wp_loop_rounds 1 ?_
  rw [rounds_succ]
  go_wp2_with fail
  go_ret
  exact ⟨rfl, rfl⟩
theorem markO_any {w : World} {N : Nat} {v : Value} {n : Nat} {xs : List Value} (hn : n ≤ 100000000) (hown : w.ownsRow N 62 1 v n xs) :
    Calls Try.prog 11 #[v, .int .i64 1] w fun e w' => e = .returned (.int .i64 ((1 + n : Nat) : Int)) ∧ Below N w w' ∧ Mkd w' v n := by
  obtain ⟨g1, g2⟩ := hown
  rcases g2 with ⟨rfl, rfl⟩ | ⟨g, cap, cur, rfl, hg, hh, hc1, hc2, hc3, hc4⟩
  · refine (markNil w).mono ?_
    rintro e w' ⟨rfl, rfl⟩
    exact ⟨rfl, Below.refl _ _, .inl ⟨rfl, rfl⟩⟩
  · have h : ∀ j, j < n → (∃ y, w.cell? ⟨g, j, none⟩ = some y) ∧ w.frozen? ⟨g, j, none⟩ = false := fun j hj => by
      have hi : j < cur.size := by omega
      have := rowu_cell hh hi
      exact ⟨⟨_, this.1⟩, this.2⟩
    refine (markU_any g n cap 1 w hn (by omega) h).mono ?_
    rintro e w' ⟨rfl, hT, hM⟩
    exact ⟨rfl, hT.below hg, .inr ⟨g, cap, rfl, hM⟩⟩
theorem heldO_any {w : World} {v : Value} {n : Nat} (hn : n ≤ 100000000) (hM : Mkd w v n) :
    Calls Try.prog 12 #[v, .int .i64 1] w fun e w' => e = .returned (.int .i64 ((1 + n : Nat) : Int)) ∧ Below w.heap.size w w' := by
  rcases hM with ⟨rfl, rfl⟩ | ⟨g, cap, rfl, hM⟩
  · refine (heldNil w).mono ?_
    rintro e w' ⟨rfl, rfl⟩
    exact ⟨rfl, Below.refl _ _⟩
  · exact heldU_any g n cap 1 w hn (by omega) hM

end Go.Proofs.Ytkbonhbegpiajaa
