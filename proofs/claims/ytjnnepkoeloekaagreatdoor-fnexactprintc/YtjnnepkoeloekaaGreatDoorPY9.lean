import Derived.Test.YtjnnepkoeloekaaGreatDoorPY5
import Derived.Deep.MidRow
namespace Go.Proofs.YtjnnepkoeloekaaGreatDoor
open Go.RowKit
set_option linter.unusedVariables false
set_option linter.unusedSimpArgs false

/-- The table of binary operators: text, strength, kind, value. -/
def binRows : List (List UInt8 × Int × Int × Int) := [([124, 124], 1, 9, 0), ([38, 38], 2, 8, 0), ([124], 3, 7, 15), ([94], 4, 7, 14), ([38], 5, 7, 13), ([61, 61], 6, 7, 11), ([33, 61], 6, 7, 12), ([60], 7, 7, 7), ([60, 61], 7, 7, 8), ([62], 7, 7, 9), ([62, 61], 7, 7, 10), ([60, 60], 8, 7, 5), ([62, 62], 8, 7, 6), ([43], 9, 7, 3), ([45], 9, 7, 4), ([42], 10, 7, 0), ([47], 10, 7, 1), ([37], 10, 7, 2)]
def binRow (k : Nat) : List UInt8 × Int × Int × Int := binRows.getD k ([], 0, 0, 0)
def binCells : List Value := binRows.flatMap fun r => [.string (tx r.1), .int .i64 r.2.1, .int .i64 r.2.2.1, .int .i64 r.2.2.2]
/-- The laid table. -/
def BTab (w : World) : Prop := 5 < w.heap.size ∧ w.rangeAt 5 0 binCells
theorem info_bins : (Tryz.prog.info? 155).map (·.size) = some binCells.length := by kernel_rfl
theorem BTab.below {w w' : World} (h : BTab w) (hb : Below w.heap.size w w') : BTab w' :=
  ⟨Nat.lt_of_lt_of_le h.1 hb.size, fun j v hv => (hb.cell (p := ⟨5, 0 + j, none⟩) h.1).trans (h.2 j v hv)⟩

def rowV (k : Nat) : Value := .agg #[.string (tx (binRow k).1), .int .i64 (binRow k).2.1, .int .i64 (binRow k).2.2.1, .int .i64 (binRow k).2.2.2]
theorem idx_bins (k : Nat) (hk : k < 18) (W : World) : (Instr.index 155 (.agg binCells.toArray) (.int .i64 (k : Int))).run Tryz.prog W = .ok (rowV k) W := by
  have : k = 0 ∨ k = 1 ∨ k = 2 ∨ k = 3 ∨ k = 4 ∨ k = 5 ∨ k = 6 ∨ k = 7 ∨ k = 8 ∨ k = 9 ∨ k = 10 ∨ k = 11 ∨ k = 12 ∨ k = 13 ∨ k = 14 ∨ k = 15 ∨ k = 16 ∨ k = 17 := by omega
  rcases this with rfl | rfl | rfl | rfl | rfl | rfl | rfl | rfl | rfl | rfl | rfl | rfl | rfl | rfl | rfl | rfl | rfl | rfl <;> (show _ = _; kernel_rfl)
/-- Row k speaks of the node. -/
def hits (n : Nd) (k : Nat) : Prop := (binRow k).2.2.1 = n.kind ∧ (binRow k).2.2.2 = n.val
theorem hits_row (n : Nd) (k : Nat) (hk : k < 18) (h : hits n k) : (binRow k).2.1 = strN n ∧ (7 ≤ n.kind → (binRow k).1 = wordN n) := by
  obtain ⟨nk, nv, nm⟩ := n
  have : k = 0 ∨ k = 1 ∨ k = 2 ∨ k = 3 ∨ k = 4 ∨ k = 5 ∨ k = 6 ∨ k = 7 ∨ k = 8 ∨ k = 9 ∨ k = 10 ∨ k = 11 ∨ k = 12 ∨ k = 13 ∨ k = 14 ∨ k = 15 ∨ k = 16 ∨ k = 17 := by omega
  rcases this with rfl | rfl | rfl | rfl | rfl | rfl | rfl | rfl | rfl | rfl | rfl | rfl | rfl | rfl | rfl | rfl | rfl | rfl <;>
    (obtain ⟨h1, h2⟩ := h; simp only [binRow, binRows, List.getD, List.getElem?_cons_succ, List.getElem?_cons_zero, Option.getD_some] at h1 h2; subst h1 h2; exact ⟨by simp [binRow, binRows, strN, strTab], fun _ => by simp [binRow, binRows, wordN, opTab]⟩)
theorem val89 {n : Nd} (h : nodeB n = true) (h8 : n.kind = 8 ∨ n.kind = 9) : n.val = 0 := by
  unfold nodeB at h
  rcases h8 with h8 | h8 <;> (simp [h8] at h; exact h.1)
theorem hits_none (n : Nd) (hn : nodeB n = true) (h : ∀ k, k < 18 → ¬ hits n k) : n.kind < 7 := by
  have hk := kind_good hn
  by_cases h9 : n.kind = 9
  · exact absurd ⟨h9.symm, (val89 hn (.inr h9)).symm⟩ (h 0 (by omega))
  · by_cases h8 : n.kind = 8
    · exact absurd ⟨h8.symm, (val89 hn (.inl h8)).symm⟩ (h 1 (by omega))
    · by_cases h7 : n.kind = 7
      · exfalso
        have hv := val7 hn h7
        have : n.val = 0 ∨ n.val = 1 ∨ n.val = 2 ∨ n.val = 3 ∨ n.val = 4 ∨ n.val = 5 ∨ n.val = 6 ∨ n.val = 7 ∨ n.val = 8 ∨ n.val = 9 ∨ n.val = 10 ∨ n.val = 11 ∨ n.val = 12 ∨ n.val = 13 ∨ n.val = 14 ∨ n.val = 15 := by omega
        rcases this with e | e | e | e | e | e | e | e | e | e | e | e | e | e | e | e
        · exact h 15 (by omega) ⟨h7.symm, e.symm⟩
        · exact h 16 (by omega) ⟨h7.symm, e.symm⟩
        · exact h 17 (by omega) ⟨h7.symm, e.symm⟩
        · exact h 13 (by omega) ⟨h7.symm, e.symm⟩
        · exact h 14 (by omega) ⟨h7.symm, e.symm⟩
        · exact h 11 (by omega) ⟨h7.symm, e.symm⟩
        · exact h 12 (by omega) ⟨h7.symm, e.symm⟩
        · exact h 7 (by omega) ⟨h7.symm, e.symm⟩
        · exact h 8 (by omega) ⟨h7.symm, e.symm⟩
        · exact h 9 (by omega) ⟨h7.symm, e.symm⟩
        · exact h 10 (by omega) ⟨h7.symm, e.symm⟩
        · exact h 5 (by omega) ⟨h7.symm, e.symm⟩
        · exact h 6 (by omega) ⟨h7.symm, e.symm⟩
        · exact h 4 (by omega) ⟨h7.symm, e.symm⟩
        · exact h 3 (by omega) ⟨h7.symm, e.symm⟩
        · exact h 2 (by omega) ⟨h7.symm, e.symm⟩
      · omega
theorem strN_low (n : Nd) (h : n.kind < 7) : strN n = 11 := by
  unfold strN
  rw [if_neg (by omega), if_neg (by omega), if_neg (by omega)]

/-- What binaryOf answers. -/
def BinRes (n : Nd) (e : Ending) : Prop := ∃ s k v, e = .returned (.agg #[.string s, .int .i64 (strN n), .int .i64 k, .int .i64 v]) ∧ (7 ≤ n.kind → s = tx (wordN n))
theorem two_boxes {w w' : World} {t u : TypeId} {x y z a b c d : Value} (h : Below (w.heap.size + 2) ((w.alloc (.cells #[x, y, z] t)).alloc (.cells #[a, b, c, d] u)) w') :
    w'.cell? ⟨w.heap.size, 0, none⟩ = some x ∧ w'.cell? ⟨w.heap.size, 1, none⟩ = some y ∧ w'.cell? ⟨w.heap.size + 1, 0, none⟩ = some a ∧ w'.cell? ⟨w.heap.size + 1, 1, none⟩ = some b ∧ w'.cell? ⟨w.heap.size + 1, 2, none⟩ = some c ∧ w'.cell? ⟨w.heap.size + 1, 3, none⟩ = some d ∧ ∀ j, w'.frozen? ⟨w.heap.size + 1, j, none⟩ = false := by
  refine ⟨?_, ?_, ?_, ?_, ?_, ?_, fun j => ?_⟩
  · rw [h.cell (by simp)]; simp
  · rw [h.cell (by simp)]; simp
  · rw [h.cell (by simp)]; simp
  · rw [h.cell (by simp)]; simp
  · rw [h.cell (by simp)]; simp
  · rw [h.cell (by simp)]; simp
  · rw [h.frozen (by simp)]; simp

set_option maxRecDepth 20000 in
set_option maxHeartbeats 2000000 in
theorem bin_any (n : Nd) (hn : nodeB n = true) (w : World) (hB : BTab w) : Calls Tryz.prog 106 #[.agg #[.int .i64 n.kind, .int .i64 n.val, .string n.name]] w fun e w' => BinRes n e ∧ Below w.heap.size w w' := by
  have HB : Hid (BTab w) := hB
  have HN : Hid (nodeB n = true) := hn
  clear hB hn
  obtain ⟨nk, nv, nm⟩ := n
  show Calls Tryz.prog 106 #[.agg #[.int .i64 nk, .int .i64 nv, .string nm]] w _
  have hR : ∀ o1 o2, ((w.alloc o1).alloc o2).rangeAt 5 0 binCells := fun o1 o2 => World.rangeAt_alloc (World.rangeAt_alloc HB.out.2 o1) o2
  have HR : Hid (∀ o1 o2, ((w.alloc o1).alloc o2).rangeAt 5 0 binCells) := hR
  clear hR
  go_enter Tryz.func106, Tryz.ntmps106
  go_wp2_with (refine wpList_load_mid rfl 155 _ rfl 5 0 rfl binCells _ (HR.out _ _) Tryz.underlying155 rfl info_bins ?_)
  generalize hC : binCells.toArray = C
  have HC : Hid (binCells.toArray = C) := hC
  clear hC
  go_wp2_with fail
  go_loopw [4, 6] (fun bx ix wr => ∃ (k : Nat), k ≤ 18 ∧ ix = .int .i64 k ∧ (∀ j, j < k → ¬ hits ⟨nk, nv, nm⟩ j) ∧ Below (w.heap.size + 2) ((w.alloc (.cells #[.int .i64 nk, .int .i64 nv, .string nm] 90)).alloc (.cells #[.string { data := #[] }, .int .i64 0, .int .i64 0, .int .i64 0] 150)) wr) (fun _ ix _ => 18 - (intOf ix).toNat)
  case atStart => exact ⟨0, by omega, rfl, fun j hj => absurd hj (by omega), Below.refl _ _⟩
  case round =>
    obtain ⟨k, hk, rfl, hno, hBe⟩ := hrel
    have HNo : Hid (∀ j, j < k → ¬ hits ⟨nk, nv, nm⟩ j) := hno
    have hsz : w.heap.size + 2 ≤ wr.heap.size := by have := hBe.size; simpa using this
    have up := fun o => two_boxes (hBe.alloc hsz o)
    have d0 := fun o => (up o).1
    have d1 := fun o => (up o).2.1
    have r0 := fun o => (up o).2.2.1
    have r1 := fun o => (up o).2.2.2.1
    have r2 := fun o => (up o).2.2.2.2.1
    have r3 := fun o => (up o).2.2.2.2.2.1
    have f0 := fun o => (up o).2.2.2.2.2.2
    obtain ⟨_, _, q0, q1, q2, q3, g0⟩ := two_boxes hBe
    clear up
    have hne : wr.heap.size ≠ w.heap.size + 1 := by omega
    have hne2 : wr.heap.size ≠ w.heap.size := by omega
    have HBe : Hid (Below w.heap.size w wr) := (((Below.refl _ _).alloc (Nat.le_refl _) _).alloc (by simp) _).trans (hBe.mono (by omega))
    have HBx : Hid _ := hBe
    clear hno hBe
    by_cases hlt : k < 18
    · have hidx := idx_bins k hlt
      rw [HC.out] at hidx
      have HH : Hid (hits ⟨nk, nv, nm⟩ k → (binRow k).2.1 = strN ⟨nk, nv, nm⟩ ∧ (7 ≤ nk → (binRow k).1 = wordN ⟨nk, nv, nm⟩)) := hits_row ⟨nk, nv, nm⟩ k hlt
      have HU : Hid (hits ⟨nk, nv, nm⟩ k ↔ (binRow k).2.2.1 = nk ∧ (binRow k).2.2.2 = nv) := Iff.rfl
      unfold rowV at hidx
      generalize hr : binRow k = row at hidx HH HU
      obtain ⟨rs, rt, rk, rv⟩ := row
      simp only at hidx
      clear hr
      by_cases h1 : rk = nk ∧ rv = nv
      · obtain ⟨rfl, rfl⟩ := h1
        obtain ⟨e1, e2⟩ := HH.out (HU.out.2 ⟨rfl, rfl⟩)
        simp only at e1 e2
        have HE1 : Hid (rt = strN ⟨rk, rv, nm⟩) := e1
        have HE2 : Hid (7 ≤ rk → rs = wordN ⟨rk, rv, nm⟩) := e2
        clear e1 e2
        go_wp2_with fail
        refine bodyPost_ret (v := .agg #[.string (tx rs), .int .i64 rt, .int .i64 rk, .int .i64 rv]) (by simp [results, Tryz.results106, go_sem, r0, r1, r2, r3]) rfl ⟨⟨tx rs, rk, rv, by rw [HE1.out], fun h => by rw [HE2.out h]⟩, ?_⟩
        exact ((((HBe.out.alloc (by omega) _).setCell (by simp) _).setCell (by simp) _).setCell (by simp) _).setCell (by simp) _
      · have HNo2 : Hid (∀ j, j < k + 1 → ¬ hits ⟨nk, nv, nm⟩ j) := by
          intro j hj
          by_cases e : j = k
          · subst e
            intro h
            exact h1 (HU.out.1 h)
          · exact HNo.out j (by omega)
        by_cases h2 : rk = nk
        · have h3 : ¬ rv = nv := fun h => h1 ⟨h2, h⟩
          subst h2
          go_wp2_with fail
          go_roundw
          case rel => exact ⟨k + 1, by omega, by go_num, HNo2.out, HBx.out.alloc hsz _⟩
          case measure => simp [intOf]; omega
        · go_wp2_with fail
          go_roundw
          case rel => exact ⟨k + 1, by omega, by go_num, HNo2.out, HBx.out.alloc hsz _⟩
          case measure => simp [intOf]; omega
    · obtain rfl : k = 18 := by omega
      have hlow := hits_none ⟨nk, nv, nm⟩ HN.out HNo.out
      have HS : Hid (strN ⟨nk, nv, nm⟩ = 11) := strN_low ⟨nk, nv, nm⟩ hlow
      simp only at hlow
      go_wp2_with fail
      refine bodyPost_ret (v := .agg #[.string ⟨#[]⟩, .int .i64 11, .int .i64 0, .int .i64 0]) (by simp [results, Tryz.results106, go_sem, q0, q1, q2, q3]) rfl ⟨⟨⟨#[]⟩, 0, 0, by rw [HS.out], fun h => ?_⟩, ?_⟩
      · simp only at h; omega
      · exact (((HBe.out.setCell (by simp) _).setCell (by simp) _).setCell (by simp) _).setCell (by simp) _

end Go.Proofs.YtjnnepkoeloekaaGreatDoor
