import Derived.Test.YtjnnepkoeloekaaGreatDoorPYA
import Derived.Test.YtjnnepkoeloekaaGreatDoorPSh
import Derived.Lib.AppendIntMem
namespace Go.Proofs.YtjnnepkoeloekaaGreatDoor
open Go.RowKit
set_option linter.unusedVariables false
set_option linter.unusedSimpArgs false

theorem wrap64 (n : Int) : IntKind.i64.wrap n = (n + 9223372036854775808) % 18446744073709551616 - 9223372036854775808 := by
  simp [IntKind.wrap, IntKind.bits, IntKind.signed]; omega

/-- The laid table of powers of ten. -/
def PTab (w : World) : Prop := Lib.TabIs Tryz.prog w "internal/strconv.uint64pow10" .u64 Lib.pow10Tab
theorem PTab.below {w w' : World} (h : PTab w) (hb : Below w.heap.size w w') : PTab w' := Lib.tabBelow_of_tabIs h w' hb
theorem fmt_any (n : Int) (h0 : -2147483648 ≤ n) (h1 : n ≤ 2147483647) (w : World) (hP : PTab w) :
    Calls Tryz.prog 38 #[.int .i64 n, .int .i64 10] w fun e w' => e = .returned (.string (tx (Lib.itoa n))) ∧ Below w.heap.size w w' := by
  refine (Tryz.strconv_FormatInt_10 n (by omega) (by omega) w hP).mono ?_
  rintro e w' ⟨rfl, k, os, rfl⟩
  exact ⟨rfl, Lib.below_grow _ _ (Nat.le_refl _) _ _⟩

/-- A block that the printer does not write. -/
def Far (P : Nat) (W : World) (B : Nat) : Prop := B < W.heap.size ∧ B ≠ P ∧ some B ≠ rb W P
theorem Far.wr {P B : Nat} {W W' : World} (h : Far P W B) (hW : Wr P W W') : Far P W' B := by
  refine ⟨Nat.lt_of_lt_of_le h.1 hW.size, h.2.1, fun e => ?_⟩
  rcases hW.row B e.symm with h1 | h1
  · exact h.2.2 h1.symm
  · have := h.1; omega
theorem far_new {w W : World} {P B : Nat} {l : List UInt8} (hO : Out w P l) (hb : Below w.heap.size w W) (h1 : w.heap.size ≤ B) (h2 : B < W.heap.size) : Far P W B := by
  have hP := hO.1
  refine ⟨h2, by omega, fun e => ?_⟩
  unfold rb at e
  rw [hb.cell (p := ⟨P, 0, none⟩) hP] at e
  have := hO.rb_lt (k := B) (by unfold rb; exact e.symm)
  omega
theorem Far.cell {P B o : Nat} {W W' : World} {v : Value} (h : Far P W B) (hW : Wr P W W') (hc : W.cell? ⟨B, o, none⟩ = some v) : W'.cell? ⟨B, o, none⟩ = some v := hW.cell h.2.1 h.2.2 hc
/-- The operands, out of the printer's way. -/
def KidsF (w0 : World) (P : Nat) (W : World) (v : Value) (e : List Nd) (b : Nat → Nat) (A : Nat) : Prop :=
  ∃ a cap, v = .slice a A cap ∧ A ≤ cap ∧ cap ≤ 9223372036854775807 ∧ (0 < A → ∃ B, a = some ⟨B, 0, none⟩ ∧ Far P W B ∧ ∀ i, i < A → ∃ vi, W.cell? ⟨B, i, none⟩ = some vi ∧ Nodes w0 vi (kid e b i))
theorem KidsF.wr {w0 W W' : World} {P : Nat} {v : Value} {e : List Nd} {b : Nat → Nat} {A : Nat} (h : KidsF w0 P W v e b A) (hW : Wr P W W') : KidsF w0 P W' v e b A := by
  obtain ⟨a, cap, rfl, hl, hm, h⟩ := h
  refine ⟨a, cap, rfl, hl, hm, fun h0 => ?_⟩
  obtain ⟨B, rfl, hF, hc⟩ := h h0
  refine ⟨B, rfl, hF.wr hW, fun i hi => ?_⟩
  obtain ⟨vi, h1, h2⟩ := hc i hi
  exact ⟨vi, hF.cell hW h1, h2⟩
theorem Kids.far {w0 w W : World} {P : Nat} {l : List UInt8} {v : Value} {e : List Nd} {b : Nat → Nat} {A N : Nat} (h : Kids w0 W N v e b A) (hO : Out w P l) (hb : Below w.heap.size w W) (hN : w.heap.size ≤ N) : KidsF w0 P W v e b A := by
  obtain ⟨a, cap, rfl, hl, hm, h⟩ := h
  refine ⟨a, cap, rfl, hl, hm, fun h0 => ?_⟩
  obtain ⟨B, rfl, hNB, hB, hc⟩ := h h0
  exact ⟨B, rfl, far_new hO hb (by omega) hB, hc⟩
theorem Kids.set {w0 w : World} {v x : Value} {e : List Nd} {b : Nat → Nat} {A N g o : Nat} (h : Kids w0 w N v e b A) (hg : g < N) : Kids w0 (w.setCell ⟨g, o, none⟩ x) N v e b A := by
  obtain ⟨a, cap, rfl, hl, hm, h⟩ := h
  refine ⟨a, cap, rfl, hl, hm, fun h0 => ?_⟩
  obtain ⟨B, rfl, hNB, hB, hc⟩ := h h0
  refine ⟨B, rfl, hNB, by simpa using hB, fun i hi => ?_⟩
  obtain ⟨vi, h1, h2⟩ := hc i hi
  refine ⟨vi, ?_, h2⟩
  rw [World.cell?_setCell_other]
  · exact h1
  · intro h; simp only [Addr.mk.injEq] at h; omega
/-- A node's box, out of the printer's way. -/
def NBox (P : Nat) (W : World) (G : Nat) (k v : Int) (s : ByteArray) : Prop := Far P W G ∧ W.cell? ⟨G, 0, none⟩ = some (.int .i64 k) ∧ W.cell? ⟨G, 1, none⟩ = some (.int .i64 v) ∧ W.cell? ⟨G, 2, none⟩ = some (.string s)
theorem NBox.wr {P G : Nat} {k v : Int} {s : ByteArray} {W W' : World} (h : NBox P W G k v s) (hW : Wr P W W') : NBox P W' G k v s :=
  ⟨h.1.wr hW, h.1.cell hW h.2.1, h.1.cell hW h.2.2.1, h.1.cell hW h.2.2.2⟩
theorem NBox.below {P G : Nat} {k v : Int} {s : ByteArray} {W W' : World} (h : NBox P W G k v s) (hP : P < W.heap.size) (hW : Below W.heap.size W W') : NBox P W' G k v s := h.wr (Wr.below hP hW)

theorem new_box {w w2 : World} {t : TypeId} {x y z : Value} (h : Below ((w.alloc (.cells #[x, y, z] t)).drew).heap.size ((w.alloc (.cells #[x, y, z] t)).drew) w2) : w2.cell? ⟨w.heap.size, 0, none⟩ = some x ∧ w2.cell? ⟨w.heap.size, 1, none⟩ = some y ∧ w2.cell? ⟨w.heap.size, 2, none⟩ = some z ∧ ∀ j, w2.frozen? ⟨w.heap.size, j, none⟩ = false := by
  refine ⟨?_, ?_, ?_, fun j => ?_⟩
  · rw [h.cell (by simp)]; simp
  · rw [h.cell (by simp)]; simp
  · rw [h.cell (by simp)]; simp
  · rw [h.frozen (by simp)]; simp

theorem val6 {n : Nd} (h : nodeB n = true) (h6 : n.kind = 6) : 0 ≤ n.val ∧ n.val ≤ 2 := by
  unfold nodeB at h
  simp [h6] at h
  omega
theorem un_slice (v : Int) (h0 : 0 ≤ v) (h2 : v ≤ 2) (W : World) : (Instr.slice 9 (.string { data := #[45, 33, 126] }) (some (.int .i64 v)) (some (.int .i64 (v + 1))) none).run Tryz.prog W = .ok (.string (tx (unTab.getD v.toNat []))) W := by
  have : v = 0 ∨ v = 1 ∨ v = 2 := by omega
  rcases this with rfl | rfl | rfl <;> (show _ = _; kernel_rfl)
theorem held_ge (l : List UInt8) (b : Bool) : l.length ≤ (heldL l b).length := by
  cases b <;> simp [heldL] <;> omega
theorem commas_mono (S : Nat → List UInt8) (i j : Nat) (h : i ≤ j) : (commas S i).length ≤ (commas S j).length := by
  induction j with
  | zero => obtain rfl : i = 0 := by omega
            exact Nat.le_refl _
  | succ j ih =>
    by_cases e : i = j + 1
    · subst e; exact Nat.le_refl _
    · have := ih (by omega)
      simp only [commas, List.length_append]
      omega
theorem Cut.kid_root {e : List Nd} {A : Nat} {b : Nat → Nat} (h : Cut e A b) (i : Nat) (hi : i < A) : nodeB (rootN (kid e b i)) = true := by
  rw [rootN_eq _ (h.kid_pos i hi)]
  refine h.good _ ?_
  have : (kid e b i)[(kid e b i).length - 1]'(by have := h.kid_pos i hi; omega) ∈ kid e b i := List.getElem_mem _
  exact List.mem_of_mem_take (List.mem_of_mem_drop this)
theorem str_bounds (n : Nd) (h : nodeB n = true) : 1 ≤ strN n ∧ strN n ≤ 11 := by
  unfold strN
  split
  · omega
  · split
    · omega
    · split
      · rename_i h7
        obtain ⟨h0, h15⟩ := val7 h h7
        have : n.val = 0 ∨ n.val = 1 ∨ n.val = 2 ∨ n.val = 3 ∨ n.val = 4 ∨ n.val = 5 ∨ n.val = 6 ∨ n.val = 7 ∨ n.val = 8 ∨ n.val = 9 ∨ n.val = 10 ∨ n.val = 11 ∨ n.val = 12 ∨ n.val = 13 ∨ n.val = 14 ∨ n.val = 15 := by omega
        rcases this with e | e | e | e | e | e | e | e | e | e | e | e | e | e | e | e <;> simp [e, strTab]
      · omega
theorem box_set {w : World} {g : Nat} {x y z x' y' z' : Value} (h0 : w.cell? ⟨g, 0, none⟩ = some x) (h1 : w.cell? ⟨g, 1, none⟩ = some y) (h2 : w.cell? ⟨g, 2, none⟩ = some z) :
    (((w.setCell ⟨g, 0, none⟩ x').setCell ⟨g, 1, none⟩ y').setCell ⟨g, 2, none⟩ z').cell? ⟨g, 0, none⟩ = some x' ∧ (((w.setCell ⟨g, 0, none⟩ x').setCell ⟨g, 1, none⟩ y').setCell ⟨g, 2, none⟩ z').cell? ⟨g, 1, none⟩ = some y' ∧ (((w.setCell ⟨g, 0, none⟩ x').setCell ⟨g, 1, none⟩ y').setCell ⟨g, 2, none⟩ z').cell? ⟨g, 2, none⟩ = some z' := by
  have e01 : (⟨g, 0, none⟩ : Addr) ≠ ⟨g, 1, none⟩ := by simp
  have e02 : (⟨g, 0, none⟩ : Addr) ≠ ⟨g, 2, none⟩ := by simp
  have e12 : (⟨g, 1, none⟩ : Addr) ≠ ⟨g, 2, none⟩ := by simp
  have e10 : (⟨g, 1, none⟩ : Addr) ≠ ⟨g, 0, none⟩ := by simp
  have e20 : (⟨g, 2, none⟩ : Addr) ≠ ⟨g, 0, none⟩ := by simp
  have e21 : (⟨g, 2, none⟩ : Addr) ≠ ⟨g, 1, none⟩ := by simp
  refine ⟨?_, ?_, ?_⟩
  · rw [World.cell?_setCell_other _ _ _ _ (by first | exact e02 | exact e20), World.cell?_setCell_other _ _ _ _ (by first | exact e01 | exact e10)]
    exact World.cell?_setCell_same _ _ _ h0
  · rw [World.cell?_setCell_other _ _ _ _ (by first | exact e12 | exact e21)]
    refine World.cell?_setCell_same _ _ _ (u := y) ?_
    rw [World.cell?_setCell_other _ _ _ _ (by first | exact e01 | exact e10)]
    exact h1
  · refine World.cell?_setCell_same _ _ _ (u := z) ?_
    rw [World.cell?_setCell_other _ _ _ _ (by first | exact e12 | exact e21), World.cell?_setCell_other _ _ _ _ (by first | exact e02 | exact e20)]
    exact h2

end Go.Proofs.YtjnnepkoeloekaaGreatDoor
