import Derived.Test.YtbmcnjjhgjphmaaDoorFA
namespace Go.Proofs.YtbmcnjjhgjphmaaDoor
open Go.RowKit
set_option linter.unusedVariables false
set_option linter.unusedSimpArgs false

theorem wholeTo_add (l : List Nd) (d : Int) (hd : 0 ≤ d) : ∀ (k q : Int), wholeTo l k = some q → wholeTo l (k + d) = some (q + d) := by
  induction l with
  | nil => intro k q h; simp only [wholeTo, Option.some.injEq] at *; omega
  | cons n r ih =>
    intro k q h
    simp only [wholeTo] at *
    split at h
    · rename_i hh
      rw [if_pos ⟨hh.1, by omega⟩]
      have := ih _ _ h
      rw [show k + d + 1 - arity n = k + 1 - arity n + d by omega]
      exact this
    · cases h
theorem one_whole {s : List Nd} (h : oneB s = true) : wholeTo s 0 = some 1 := by simpa [oneB] using h
theorem wholeTo_segs (T : List (List Nd)) (h : ∀ s ∈ T, oneB s = true) : ∀ k : Int, 0 ≤ k → wholeTo T.flatten k = some (k + T.length) := by
  induction T with
  | nil => intro k hk; simp [wholeTo]
  | cons s T ih =>
    intro k hk
    rw [List.flatten_cons, wholeTo_append]
    have h1 := wholeTo_add s k hk 0 1 (one_whole (h s (by simp)))
    rw [show (0 : Int) + k = k by omega] at h1
    rw [h1, Option.bind_some, ih (fun s hs => h s (by simp [hs])) (1 + k) (by omega)]
    simp only [List.length_cons, Option.some.injEq]
    omega
theorem flat_take (T : List (List Nd)) (i : Nat) (hi : i < T.length) : T.flatten.take (T.take (i + 1)).flatten.length = (T.take i).flatten ++ T[i] := by
  have e : T = T.take (i + 1) ++ T.drop (i + 1) := (List.take_append_drop _ _).symm
  have e2 : T.flatten = (T.take (i + 1)).flatten ++ (T.drop (i + 1)).flatten := by rw [← List.flatten_append, ← e]
  rw [e2, List.take_left, List.take_add_one, List.flatten_append]
  simp [List.getElem?_eq_getElem hi]
theorem flat_len (T : List (List Nd)) (i : Nat) (hi : i < T.length) : (T.take (i + 1)).flatten.length = (T.take i).flatten.length + T[i].length := by
  rw [List.take_add_one, List.flatten_append, List.length_append]
  simp [List.getElem?_eq_getElem hi]
theorem flat_le (T : List (List Nd)) (i : Nat) : (T.take i).flatten.length ≤ T.flatten.length := by
  have e2 : T.flatten = (T.take i).flatten ++ (T.drop i).flatten := by rw [← List.flatten_append, List.take_append_drop]
  rw [e2, List.length_append]
  omega
theorem seg_kid (T : List (List Nd)) (n : Nd) (i : Nat) (hi : i < T.length) : ((T.flatten ++ [n]).take (T.take (i + 1)).flatten.length).drop (T.take i).flatten.length = T[i] := by
  rw [List.take_append_of_le_length (flat_le T _), flat_take T i hi, List.drop_left]
theorem root_snoc (l : List Nd) (n : Nd) : rootN (l ++ [n]) = n := by
  simp [rootN]
theorem push_one (T : List (List Nd)) (n : Nd) (hn : nodeB n = true) (hA : arity n = T.length) (h : ∀ s ∈ T, oneB s = true) : oneB (T.flatten ++ [n]) = true := by
  have : wholeTo (T.flatten ++ [n]) 0 = some 1 := by
    rw [wholeTo_append, wholeTo_segs T h 0 (Int.le_refl _), Option.bind_some]
    simp only [wholeTo]
    rw [if_pos ⟨hn, by omega⟩]
    simp only [Option.some.injEq]
    omega
  simpa [oneB] using this
theorem push_cut (T : List (List Nd)) (n : Nd) (hn : nodeB n = true) (hA : arity n = T.length) (h : ∀ s ∈ T, oneB s = true) :
    Cut (T.flatten ++ [n]) T.length (fun i => (T.take i).flatten.length) := by
  refine ⟨by simp, by rw [root_snoc]; exact hA, one_good (push_one T n hn hA h), by simp, by simp, fun i hi => ?_⟩
  have hl := flat_len T i hi
  have ho := (oneB_iff T[i]).1 (h _ (List.getElem_mem _))
  have hp := one_pos (h _ (List.getElem_mem hi))
  refine ⟨by omega, ?_, fun j h1 h2 => ?_⟩
  · rw [seg_kid T n i hi]; exact ho.2.1
  · have e : ((T.flatten ++ [n]).take (T.take (i + 1)).flatten.length).drop j = T[i].drop (j - (T.take i).flatten.length) := by
      rw [← seg_kid T n i hi, List.drop_drop]
      congr 1
      omega
    rw [e]
    exact ho.2.2 _ (by omega) (by omega)
theorem push_fd (ap : Int → Int → Int → Int) (T : List (List Nd)) (n : Nd) (hn : nodeB n = true) (hA : arity n = T.length) (h : ∀ s ∈ T, oneB s = true) (F : Nat → List Nd) (hF : ∀ i (hi : i < T.length), Fd ap T[i] (F i)) :
    Fd ap (T.flatten ++ [n]) (fold1 ap n T.length F) := by
  have := Fd.mk (ap := ap) (T.flatten ++ [n]) T.length _ F (push_cut T n hn hA h) (fun i hi => by rw [kid, seg_kid T n i hi]; exact hF i hi)
  rwa [root_snoc] at this
/-- How many values stand when a node comes up, and at the end. -/
theorem segs_room {e : List Nd} (he : oneB e = true) {T : List (List Nd)} (h : ∀ s ∈ T, oneB s = true) {k : Nat} (hk : k < e.length) (hT : T.flatten = e.take k) : nodeB e[k] = true ∧ arity e[k] ≤ T.length := by
  have h1 := one_whole he
  obtain ⟨p, h2, h3⟩ := whole_take e 0 1 h1 (k + 1)
  have h4 := wholeTo_segs T h 0 (Int.le_refl _)
  rw [hT] at h4
  have := wholeTo_step e k _ hk h4
  rw [h2] at this
  split at this
  · rename_i hh
    exact ⟨hh.1, by omega⟩
  · cases this
theorem segs_end {e : List Nd} (he : oneB e = true) {T : List (List Nd)} (h : ∀ s ∈ T, oneB s = true) (hT : T.flatten = e) : T = [e] := by
  have h4 := wholeTo_segs T h 0 (Int.le_refl _)
  rw [hT, one_whole he] at h4
  simp only [Option.some.injEq] at h4
  have h5 : T.length = 1 := by omega
  obtain ⟨s, rfl⟩ := List.length_eq_one_iff.1 h5
  simp at hT
  rw [hT]

end Go.Proofs.YtbmcnjjhgjphmaaDoor
