import Derived.Test.YtjnnepkoeloekaaGreatDoorPV7
import Derived.Test.YtjnnepkoeloekaaGreatDoorPX0
import Derived.Deep.RegionHeld3
import Derived.Deep.RegionWith
namespace Go.Proofs.YtjnnepkoeloekaaGreatDoor
open Go.RowKit
set_option linter.unusedVariables false
set_option linter.unusedSimpArgs false

/-- A text out of its bytes. -/
def tx (l : List UInt8) : ByteArray := ⟨l.toArray⟩
theorem tx_size (l : List UInt8) : (tx l).size = l.length := by simp [tx, ByteArray.size]
theorem tx_append (a b : List UInt8) : tx a ++ tx b = tx (a ++ b) := by
  apply ByteArray.ext
  simp [tx]
theorem tx_back (s : ByteArray) : tx s.data.toList = s := by
  apply ByteArray.ext
  simp [tx]
theorem tx_len (s : ByteArray) : s.data.toList.length = s.size := Array.length_toList
/-- A text in parentheses, where it is asked. -/
def heldL (l : List UInt8) (b : Bool) : List UInt8 := if b then 40 :: l ++ [41] else l
/-- How strong the binary operators are, and how they are written. -/
def strTab : List Int := [10, 10, 10, 9, 9, 8, 8, 7, 7, 7, 7, 6, 6, 5, 4, 3]
def opTab : List (List UInt8) := [[42], [47], [37], [43], [45], [60, 60], [62, 62], [60], [60, 61], [62], [62, 61], [61, 61], [33, 61], [38], [94], [124]]
def strN (n : Nd) : Int := if n.kind = 9 then 1 else if n.kind = 8 then 2 else if n.kind = 7 then strTab.getD n.val.toNat 0 else 11
def wordN (n : Nd) : List UInt8 := if n.kind = 9 then [124, 124] else if n.kind = 8 then [38, 38] else opTab.getD n.val.toNat []

theorem val7 {n : Nd} (h : nodeB n = true) (h7 : n.kind = 7) : 0 ≤ n.val ∧ n.val ≤ 15 := by
  unfold nodeB at h
  simp [h7] at h
  omega

set_option maxHeartbeats 400000 in
theorem held_any (l : List UInt8) (b : Bool) (hl : (l.length : Int) ≤ 1000000000) (w : World) : Calls Tryz.prog 54 #[.string (tx l), .bool b] w fun e w' => e = .returned (.string (tx (heldL l b))) ∧ w' = w := by
  have hs : ((tx l).size : Int) ≤ 1000000000 := by rw [tx_size]; exact hl
  have h40 : (⟨#[40]⟩ : ByteArray).size = 1 := rfl
  have h41 : (⟨#[41]⟩ : ByteArray).size = 1 := rfl
  have hE : (⟨#[40]⟩ : ByteArray) ++ tx l = tx (40 :: l) := tx_append [40] l
  have hE2 : tx (40 :: l) ++ (⟨#[41]⟩ : ByteArray) = tx (40 :: l ++ [41]) := tx_append (40 :: l) [41]
  have hs2 : ((tx (40 :: l)).size : Int) ≤ 1000000001 := by rw [tx_size]; simp only [List.length_cons]; omega
  generalize hA : tx l = A at hs hE ⊢
  generalize hB : tx (40 :: l) = B at hE hE2 hs2
  have HA : Hid (tx l = A) := hA
  have HE : Hid (B ++ (⟨#[41]⟩ : ByteArray) = tx (40 :: l ++ [41])) := hE2
  clear hA hB hE2
  go_enter Tryz.func54, Tryz.ntmps54
  cases b
  · go_wp2_with fail
    go_ret
    exact ⟨ret_str (by rw [← HA.out]; rfl), rfl⟩
  · go_wp2_with fail
    go_ret
    exact ⟨ret_str (by rw [HE.out]; rfl), rfl⟩

set_option maxHeartbeats 1000000 in
theorem str_any (n : Nd) (hn : nodeB n = true) (w : World) : Calls Tryz.prog 55 #[.agg #[.int .i64 n.kind, .int .i64 n.val, .string n.name]] w fun e w' => e = .returned (.int .i64 (strN n)) ∧ Below w.heap.size w w' := by
  have H7 : Hid (n.kind = 7 → 0 ≤ n.val ∧ n.val ≤ 15) := val7 hn
  clear hn
  obtain ⟨k, v, s⟩ := n
  show Calls Tryz.prog 55 #[.agg #[.int .i64 k, .int .i64 v, .string s]] w _
  by_cases h9 : k = 9
  · subst h9
    go_enter Tryz.func55, Tryz.ntmps55
    go_wp2_with fail
    go_ret
    exact ⟨ret_int (by simp [strN]), (Below.refl _ _).alloc (Nat.le_refl _) _⟩
  · by_cases h8 : k = 8
    · subst h8
      go_enter Tryz.func55, Tryz.ntmps55
      go_wp2_with fail
      go_ret
      exact ⟨ret_int (by simp [strN]), (Below.refl _ _).alloc (Nat.le_refl _) _⟩
    · by_cases h7 : k = 7
      · subst h7
        obtain ⟨a, b⟩ := H7.out rfl
        simp only at a b
        obtain ⟨m, rfl⟩ : ∃ m : Nat, v = m := ⟨v.toNat, by omega⟩
        have hm : m ≤ 15 := by omega
        have HS : Hid (strN ⟨7, m, s⟩ = strTab.getD m 0) := by show _ = _; simp [strN]
        have hc : [Value.int IntKind.i64 10, Value.int IntKind.i64 10, Value.int IntKind.i64 10, Value.int IntKind.i64 9, Value.int IntKind.i64 9, Value.int IntKind.i64 8, Value.int IntKind.i64 8, Value.int IntKind.i64 7, Value.int IntKind.i64 7, Value.int IntKind.i64 7, Value.int IntKind.i64 7, Value.int IntKind.i64 6, Value.int IntKind.i64 6, Value.int IntKind.i64 5, Value.int IntKind.i64 4, Value.int IntKind.i64 3][m]? = some (.int .i64 (strTab.getD m 0)) := by
          have : m = 0 ∨ m = 1 ∨ m = 2 ∨ m = 3 ∨ m = 4 ∨ m = 5 ∨ m = 6 ∨ m = 7 ∨ m = 8 ∨ m = 9 ∨ m = 10 ∨ m = 11 ∨ m = 12 ∨ m = 13 ∨ m = 14 ∨ m = 15 := by omega
          rcases this with rfl | rfl | rfl | rfl | rfl | rfl | rfl | rfl | rfl | rfl | rfl | rfl | rfl | rfl | rfl | rfl <;> simp [strTab]
        clear H7 a b
        go_enter Tryz.func55, Tryz.ntmps55
        go_wp2_with fail
        go_ret
        exact ⟨ret_int HS.out.symm, ((Below.refl _ _).alloc (Nat.le_refl _) _).alloc (by simp) _⟩
      · clear H7
        go_enter Tryz.func55, Tryz.ntmps55
        go_wp2_with fail
        go_ret
        exact ⟨ret_int (by simp [strN, h7, h8, h9]), (Below.refl _ _).alloc (Nat.le_refl _) _⟩

set_option maxHeartbeats 1000000 in
theorem ops_any (w : World) : Calls Tryz.prog 71 #[] w fun e w' => e = .returned (.slice (some ⟨w.heap.size, 0, none⟩) 16 16) ∧ Below w.heap.size w w' ∧ w.heap.size < w'.heap.size ∧ ∀ m, m < 16 → w'.cell? ⟨w.heap.size, m, none⟩ = some (.string (tx (opTab.getD m []))) := by
  go_enter Tryz.func71, Tryz.ntmps71
  go_wp2_with fail
  go_ret
  refine ⟨rfl, (Below.refl _ _).alloc (Nat.le_refl _) _, by simp, fun m hm => ?_⟩
  have : m = 0 ∨ m = 1 ∨ m = 2 ∨ m = 3 ∨ m = 4 ∨ m = 5 ∨ m = 6 ∨ m = 7 ∨ m = 8 ∨ m = 9 ∨ m = 10 ∨ m = 11 ∨ m = 12 ∨ m = 13 ∨ m = 14 ∨ m = 15 := by omega
  rcases this with rfl | rfl | rfl | rfl | rfl | rfl | rfl | rfl | rfl | rfl | rfl | rfl | rfl | rfl | rfl | rfl <;> simp [opTab, tx]

set_option maxRecDepth 100000 in
set_option maxHeartbeats 2000000 in
theorem word_any (n : Nd) (hn : nodeB n = true) (h7 : 7 ≤ n.kind) (w : World) : Calls Tryz.prog 56 #[.agg #[.int .i64 n.kind, .int .i64 n.val, .string n.name]] w fun e w' => e = .returned (.string (tx (wordN n))) ∧ Below w.heap.size w w' := by
  have H7 : Hid (n.kind = 7 → 0 ≤ n.val ∧ n.val ≤ 15) := val7 hn
  have hk := kind_good hn
  clear hn
  obtain ⟨k, v, s⟩ := n
  show Calls Tryz.prog 56 #[.agg #[.int .i64 k, .int .i64 v, .string s]] w _
  simp only at h7 hk
  by_cases h9 : k = 9
  · subst h9
    go_enter Tryz.func56, Tryz.ntmps56
    go_wp2_with fail
    go_ret
    exact ⟨ret_str (by simp [wordN, tx]), (Below.refl _ _).alloc (Nat.le_refl _) _⟩
  · by_cases h8 : k = 8
    · subst h8
      go_enter Tryz.func56, Tryz.ntmps56
      go_wp2_with fail
      go_ret
      exact ⟨ret_str (by simp [wordN, tx]), (Below.refl _ _).alloc (Nat.le_refl _) _⟩
    · have e7 : k = 7 := by omega
      subst e7
      obtain ⟨a, b⟩ := H7.out rfl
      simp only at a b
      obtain ⟨m, rfl⟩ : ∃ m : Nat, v = m := ⟨v.toNat, by omega⟩
      have hm : m < 16 := by omega
      have HS : Hid (wordN ⟨7, m, s⟩ = opTab.getD m []) := by show _ = _; simp [wordN]
      clear H7 a b h7 hk
      go_enter Tryz.func56, Tryz.ntmps56
      go_wp2_with fail
      have hm2 : (m : Int) < 16 := by omega
      go_region_with (first
        | (refine (ops_any _).mono ?_; rintro e w2 ⟨rfl, hb2, hs2, hc2⟩; simp only [World.size_drew, World.size_alloc] at hb2 hs2 hc2; have q2 : w2.cell? ⟨w.heap.size, 1, none⟩ = some (.int .i64 m) := (hb2.cell (by simp)).trans (by simp); have c2 := hc2 m hm))
      all_goals go_wp2_with fail
      all_goals go_ret
      all_goals refine ⟨ret_str ?_, ((((Below.refl _ _).alloc (Nat.le_refl _) _).trans ((Below.refl _ _).drew)).trans (hb2.mono (by omega)))⟩
      all_goals (rw [HS.out]; rfl)

end Go.Proofs.YtjnnepkoeloekaaGreatDoor
