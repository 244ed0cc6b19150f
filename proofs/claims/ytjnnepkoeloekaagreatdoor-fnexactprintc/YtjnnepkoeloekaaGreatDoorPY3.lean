import Derived.Test.YtjnnepkoeloekaaGreatDoorPY1
import Derived.Test.YtjnnepkoeloekaaGreatDoorPY2
namespace Go.Proofs.YtjnnepkoeloekaaGreatDoor
set_option linter.unusedVariables false
set_option linter.unusedSimpArgs false

theorem whole_defc (l : List Nd) (k q : Int) (h : wholeTo l k = some q) : defc l = 1 + k - q := by
  induction l generalizing k with
  | nil => simp only [wholeTo, Option.some.injEq] at h; subst h; simp [defc]
  | cons n r ih =>
    simp only [wholeTo] at h
    split at h
    · have := ih _ h
      simp only [defc]
      omega
    · cases h
theorem whole_take (l : List Nd) (k q : Int) (h : wholeTo l k = some q) (j : Nat) : ∃ p, wholeTo (l.take j) k = some p ∧ wholeTo (l.drop j) p = some q := by
  rw [← List.take_append_drop j l, wholeTo_append] at h
  cases e : wholeTo (l.take j) k with
  | none => rw [e] at h; cases h
  | some p => rw [e] at h; exact ⟨p, rfl, h⟩
theorem whole_pos (l : List Nd) (q : Int) (hl : 0 < l.length) (h : wholeTo l 0 = some q) : 1 ≤ q := by
  obtain ⟨m, hm⟩ : ∃ m, l.length = m + 1 := ⟨l.length - 1, by omega⟩
  obtain ⟨p, h1, h2⟩ := whole_take l 0 q h m
  have := wholeTo_step l m p (by omega) h1
  rw [← hm, List.take_length, h] at this
  split at this
  · rename_i hh
    simp only [Option.some.injEq] at this
    omega
  · cases this
theorem whole_one (l : List Nd) (p : Int) (h : wholeTo l 0 = some p) (m : Nat) (hm : l.length = m + 1) (i : Nat) (hi : i < l.length) (a : Int) (ha : wholeTo (l.take i) 0 = some a) : ∃ c, wholeTo (l.take (i + 1)) 0 = some c ∧ c ≤ a + 1 := by
  obtain ⟨c, h1, h2⟩ := whole_take l 0 p h (i + 1)
  have := wholeTo_step l i a hi ha
  rw [h1] at this
  split at this
  · rename_i hh
    have := arity_good hh.1
    simp only [Option.some.injEq] at *
    exact ⟨c, h1, by omega⟩
  · cases this
theorem whole_cut (l : List Nd) (c : Int) (hc : 0 ≤ c) (h : wholeTo l 0 = some (c + 1)) : ∃ i, i < l.length ∧ wholeTo (l.take i) 0 = some c ∧ ∀ j, i < j → j ≤ l.length → ∃ p, wholeTo (l.take j) 0 = some p ∧ c + 1 ≤ p := by
  have hl : 0 < l.length := by
    cases l with
    | nil => simp only [wholeTo, Option.some.injEq] at h; omega
    | cons => simp
  obtain ⟨m, hm⟩ : ∃ m, l.length = m + 1 := ⟨l.length - 1, by omega⟩
  -- going down from the end
  have key : ∀ d, d ≤ l.length → (∃ i, l.length - d ≤ i ∧ i < l.length ∧ wholeTo (l.take i) 0 = some c ∧ ∀ j, i < j → j ≤ l.length → ∃ p, wholeTo (l.take j) 0 = some p ∧ c + 1 ≤ p) ∨ (∀ j, l.length - d ≤ j → j ≤ l.length → ∃ p, wholeTo (l.take j) 0 = some p ∧ c + 1 ≤ p) := by
    intro d
    induction d with
    | zero =>
      intro _
      refine .inr fun j h1 h2 => ?_
      obtain rfl : j = l.length := by omega
      rw [List.take_length]
      exact ⟨_, h, Int.le_refl _⟩
    | succ d ih =>
      intro hd
      rcases ih (by omega) with ⟨i, h1, h2⟩ | hall
      · exact .inl ⟨i, by omega, h2⟩
      · obtain ⟨a, ha, _⟩ := whole_take l 0 _ h (l.length - (d + 1))
        obtain ⟨c', h1, h2⟩ := whole_one l _ h m hm (l.length - (d + 1)) (by omega) a ha
        obtain ⟨p, hp, hp2⟩ := hall (l.length - (d + 1) + 1) (by omega) (by omega)
        rw [h1] at hp
        simp only [Option.some.injEq] at hp
        by_cases e : a = c
        · subst e
          exact .inl ⟨_, Nat.le_refl _, by omega, ha, fun j h3 h4 => hall j (by omega) h4⟩
        · refine .inr fun j h3 h4 => ?_
          by_cases e2 : j = l.length - (d + 1)
          · subst e2; exact ⟨a, ha, by omega⟩
          · exact hall j (by omega) h4
  rcases key l.length (Nat.le_refl _) with ⟨i, _, h1⟩ | hall
  · exact ⟨i, h1⟩
  · obtain ⟨p, hp, hp2⟩ := hall 0 (by omega) (by omega)
    simp only [List.take_zero, wholeTo, Option.some.injEq] at hp
    omega

theorem whole_beg (e : List Nd) (k : Nat) (c : Int) (hk : k ≤ e.length) (hc : 0 ≤ c) (h : wholeTo (e.take k) 0 = some (c + 1)) :
    ∃ i, begP e k i ∧ wholeTo (e.take i) 0 = some c ∧ oneB ((e.take k).drop i) = true := by
  have hlen : (e.take k).length = k := by simp; omega
  obtain ⟨i, h1, h2, h3⟩ := whole_cut (e.take k) c hc h
  rw [hlen] at h1 h3
  have hd : ∀ j, j ≤ k → ∀ p, wholeTo ((e.take k).take j) 0 = some p → defc ((e.take k).drop j) = p - c := by
    intro j hj p hp
    obtain ⟨p', g1, g2⟩ := whole_take (e.take k) 0 _ h j
    rw [hp] at g1
    simp only [Option.some.injEq] at g1
    subst g1
    have := whole_defc _ _ _ g2
    omega
  have hb : begP e k i := by
    refine ⟨h1, ?_, fun j g1 g2 => ?_⟩
    · rw [hd i (by omega) c h2]; omega
    · obtain ⟨p, hp, hp2⟩ := h3 j g1 g2
      rw [hd j g2 p hp]; omega
  refine ⟨i, hb, ?_, ?_⟩
  · rw [List.take_take, Nat.min_eq_left (by omega)] at h2; exact h2
  · rw [oneB_iff]
    refine ⟨fun n hn => wholeTo_good _ _ _ h n (List.mem_of_mem_drop hn), hb.2.1, fun j g1 g2 => ?_⟩
    rw [List.drop_drop]
    simp only [List.length_drop, hlen] at g2
    exact hb.2.2 (i + j) (by omega) (by omega)

def nd0 : Nd := ⟨1, 0, ⟨#[]⟩⟩
/-- The last node. -/
def rootN (e : List Nd) : Nd := e.getD (e.length - 1) nd0
/-- The operands of an expression lie between the boundaries b 0 .. b A. -/
structure Cut (e : List Nd) (A : Nat) (b : Nat → Nat) : Prop where
  len : 0 < e.length
  ar : arity (rootN e) = A
  good : goodAll e
  last : b A = e.length - 1
  first : b 0 = 0
  beg : ∀ i, i < A → begP e (b (i + 1)) (b i)
def kid (e : List Nd) (b : Nat → Nat) (i : Nat) : List Nd := (e.take (b (i + 1))).drop (b i)

theorem cuts_down (e : List Nd) (he : 0 < e.length) (A : Nat) : ∀ k, k ≤ e.length → wholeTo (e.take k) 0 = some (A : Int) → ∃ b : Nat → Nat, b A = k ∧ b 0 = 0 ∧ ∀ i, i < A → begP e (b (i + 1)) (b i) ∧ oneB (kid e b i) = true := by
  induction A with
  | zero =>
    intro k hk h
    refine ⟨fun _ => 0, ?_, rfl, fun i hi => absurd hi (by omega)⟩
    rcases Nat.eq_zero_or_pos k with rfl | hp
    · rfl
    · have := whole_pos (e.take k) _ (by simp; omega) h
      omega
  | succ A ih =>
    intro k hk h
    obtain ⟨i, h1, h2, h3⟩ := whole_beg e k A hk (by omega) (by rw [h]; rfl)
    obtain ⟨b, g1, g2, g3⟩ := ih i (by have := h1.1; omega) h2
    refine ⟨fun j => if j = A + 1 then k else b j, by simp, by simp [g2], fun j hj => ?_⟩
    by_cases e1 : j = A
    · subst e1
      simp only [kid, if_true, Nat.succ_ne_self, if_neg (show ¬ j = j + 1 by omega), g1]
      exact ⟨h1, h3⟩
    · have := g3 j (by omega)
      simp only [kid, if_neg (show ¬ j = A + 1 by omega), if_neg (show ¬ j + 1 = A + 1 by omega)]
      exact this
theorem rootN_eq (e : List Nd) (h : 0 < e.length) : rootN e = e[e.length - 1]'(by omega) := by
  simp [rootN, List.getD, List.getElem?_eq_getElem (show e.length - 1 < e.length by omega)]
theorem one_pos {e : List Nd} (h : oneB e = true) : 0 < e.length := by
  cases e with
  | nil => simp [oneB, wholeTo] at h
  | cons => simp
theorem one_good {e : List Nd} (h : oneB e = true) : goodAll e := ((oneB_iff e).1 h).1
theorem one_root {e : List Nd} (h : oneB e = true) : nodeB (rootN e) = true := by
  rw [rootN_eq e (one_pos h)]
  exact one_good h _ (List.getElem_mem _)
theorem one_cuts {e : List Nd} (h : oneB e = true) : ∃ A b, Cut e A b ∧ ∀ i, i < A → oneB (kid e b i) = true := by
  have hl := one_pos h
  have h' : wholeTo e 0 = some 1 := by simpa [oneB] using h
  obtain ⟨q, h1, h2⟩ := whole_take e 0 1 h' (e.length - 1)
  have hs := wholeTo_step e (e.length - 1) q (by omega) h1
  rw [show e.length - 1 + 1 = e.length by omega, List.take_length, h'] at hs
  split at hs
  · simp only [Option.some.injEq] at hs
    have hb := arity_good (one_root h)
    rw [rootN_eq e hl] at hb
    obtain ⟨A, hA⟩ : ∃ A : Nat, q = A := ⟨q.toNat, by omega⟩
    subst hA
    obtain ⟨b, g1, g2, g3⟩ := cuts_down e hl A (e.length - 1) (by omega) h1
    exact ⟨A, b, ⟨hl, by rw [rootN_eq e hl]; omega, one_good h, g1, g2, fun i hi => (g3 i hi).1⟩, fun i hi => (g3 i hi).2⟩
  · cases hs

end Go.Proofs.YtjnnepkoeloekaaGreatDoor

namespace Go.Proofs.YtjnnepkoeloekaaGreatDoor
set_option linter.unusedVariables false
set_option linter.unusedSimpArgs false

/-- The operands of a call, with commas. -/
def commas (S : Nat → List UInt8) : Nat → List UInt8
  | 0 => []
  | i + 1 => commas S i ++ (if i = 0 then [] else [44, 32]) ++ S i
def unTab : List (List UInt8) := [[45], [33], [126]]
/-- The text of a node whose operands have the texts S and the strengths R. -/
def show1 (n : Nd) (A : Nat) (S : Nat → List UInt8) (R : Nat → Int) : List UInt8 :=
  if n.kind = 1 then Lib.itoa n.val
  else if n.kind = 2 then n.name.data.toList
  else if n.kind = 3 then n.name.data.toList ++ [91] ++ S 0 ++ [93]
  else if n.kind = 4 then n.name.data.toList ++ [40] ++ commas S A ++ [41]
  else if n.kind = 5 then [105, 110, 40, 41]
  else if n.kind = 6 then unTab.getD n.val.toNat [] ++ heldL (S 0) (decide (R 0 < 11))
  else heldL (S 0) (decide (R 0 < strN n)) ++ [32] ++ wordN n ++ [32] ++ heldL (S 1) (decide (R 1 ≤ strN n))
/-- Expressions and their texts. -/
structure Pr (a0_ : List Nd) (a1_ : List UInt8) : Prop where
  c_ ::
  out : ∀ (P_ : List Nd → List UInt8 → Prop), (∀ (e : List Nd) (A : Nat) (b : Nat → Nat) (S : Nat → List UInt8), Cut e A b → (∀ i, i < A → P_ (kid e b i) (S i)) → P_ e (show1 (rootN e) A S (fun i => strN (rootN (kid e b i))))) → P_ a0_ a1_
theorem Pr.mk (e : List Nd) (A : Nat) (b : Nat → Nat) (S : Nat → List UInt8) (hc : Cut e A b) (hk : ∀ i, i < A → Pr (kid e b i) (S i)) : Pr e (show1 (rootN e) A S (fun i => strN (rootN (kid e b i)))) := ⟨fun P_ h0_ => h0_ e A b S hc (fun i r0_ => (hk i r0_).out P_ h0_)⟩
theorem Pr.ind {motive : ∀ (a0_ : List Nd) (a1_ : List UInt8), Pr a0_ a1_ → Prop}
    (mk : ∀ (e : List Nd) (A : Nat) (b : Nat → Nat) (S : Nat → List UInt8) (hc : Cut e A b) (hk : ∀ i, i < A → Pr (kid e b i) (S i)) (hki : ∀ i (r0_ : i < A), motive (kid e b i) (S i) (hk i r0_)), motive e (show1 (rootN e) A S (fun i => strN (rootN (kid e b i)))) (Pr.mk e A b S hc hk))
    {a0_ : List Nd} {a1_ : List UInt8} (t_ : Pr a0_ a1_) : motive a0_ a1_ t_ :=
  (t_.out (fun a0_ a1_ => ∃ z_ : Pr a0_ a1_, motive a0_ a1_ z_)
    (fun e A b S hc hk => ⟨Pr.mk e A b S hc (fun i r0_ => (hk i r0_).1), mk e A b S hc (fun i r0_ => (hk i r0_).1) (fun i r0_ => (hk i r0_).2)⟩)).2

theorem Cut.le {e : List Nd} {A : Nat} {b : Nat → Nat} (h : Cut e A b) : ∀ d, d ≤ A → b (A - d) ≤ e.length - 1 := by
  intro d
  induction d with
  | zero => intro _; rw [Nat.sub_zero, h.last]; exact Nat.le_refl _
  | succ d ih =>
    intro hd
    have := ih (by omega)
    have h2 := (h.beg (A - (d + 1)) (by omega)).1
    rw [show A - (d + 1) + 1 = A - d by omega] at h2
    omega
theorem Cut.le' {e : List Nd} {A : Nat} {b : Nat → Nat} (h : Cut e A b) (i : Nat) (hi : i ≤ A) : b i ≤ e.length - 1 := by
  have := h.le (A - i) (by omega)
  rwa [show A - (A - i) = i by omega] at this
theorem Cut.kid_len {e : List Nd} {A : Nat} {b : Nat → Nat} (h : Cut e A b) (i : Nat) (hi : i < A) : (kid e b i).length = b (i + 1) - b i := by
  have := h.le' (i + 1) (by omega)
  simp [kid]
  omega
theorem Cut.kid_pos {e : List Nd} {A : Nat} {b : Nat → Nat} (h : Cut e A b) (i : Nat) (hi : i < A) : 0 < (kid e b i).length := by
  rw [h.kid_len i hi]
  have := (h.beg i hi).1
  omega
theorem Cut.kid_lt {e : List Nd} {A : Nat} {b : Nat → Nat} (h : Cut e A b) (i : Nat) (hi : i < A) : (kid e b i).length < e.length := by
  rw [h.kid_len i hi]
  have := h.le' (i + 1) (by omega)
  have := h.len
  omega

theorem Pr.exists (N : Nat) : ∀ e : List Nd, e.length ≤ N → oneB e = true → ∃ s, Pr e s := by
  induction N with
  | zero => intro e hl h; have := one_pos h; omega
  | succ N ih =>
    intro e hl h
    obtain ⟨A, b, hc, hk⟩ := one_cuts h
    have : ∀ i, ∃ s, i < A → Pr (kid e b i) s := by
      intro i
      by_cases hi : i < A
      · obtain ⟨s, hs⟩ := ih (kid e b i) (by have := hc.kid_lt i hi; omega) (hk i hi)
        exact ⟨s, fun _ => hs⟩
      · exact ⟨[], fun h => absurd h hi⟩
    exact ⟨_, Pr.mk e A b (fun i => (this i).choose) hc (fun i hi => (this i).choose_spec hi)⟩

theorem held_len (l : List UInt8) (b : Bool) : (heldL l b).length ≤ l.length + 2 := by
  cases b <;> simp [heldL]
theorem word_len (n : Nd) : (wordN n).length ≤ 2 := by
  unfold wordN
  split
  · simp
  · split
    · simp
    · have : ∀ k, (opTab.getD k []).length ≤ 2 := by
        intro k
        by_cases hk : k < 16
        · have : k = 0 ∨ k = 1 ∨ k = 2 ∨ k = 3 ∨ k = 4 ∨ k = 5 ∨ k = 6 ∨ k = 7 ∨ k = 8 ∨ k = 9 ∨ k = 10 ∨ k = 11 ∨ k = 12 ∨ k = 13 ∨ k = 14 ∨ k = 15 := by omega
          rcases this with rfl | rfl | rfl | rfl | rfl | rfl | rfl | rfl | rfl | rfl | rfl | rfl | rfl | rfl | rfl | rfl <;> simp [opTab]
        · rw [List.getD, List.getElem?_eq_none (by simp [opTab]; omega)]; simp
      exact this _
theorem un_len (k : Nat) : (unTab.getD k []).length ≤ 1 := by
  by_cases hk : k < 3
  · have : k = 0 ∨ k = 1 ∨ k = 2 := by omega
    rcases this with rfl | rfl | rfl <;> simp [unTab]
  · rw [List.getD, List.getElem?_eq_none (by simp [unTab]; omega)]; simp
theorem dec_len2 (u : Nat) (h : u ≤ 2147483648) : (Lib.decDigits u).length ≤ 10 := by
  have h1 : ∀ k u : Nat, u < 10 ^ (k + 1) → (Lib.decDigits u).length ≤ k + 1 := by
    intro k
    induction k with
    | zero => intro u hu; rw [Lib.decDigits, dif_pos (by omega)]; simp
    | succ k ih =>
      intro u hu
      rw [Lib.decDigits]
      split
      · simp
      · have := ih (u / 10) (by rw [Nat.pow_succ] at hu; omega)
        simp only [List.length_append, List.length_cons, List.length_nil]
        omega
  exact h1 9 u (by omega)
theorem itoa_len (x : Int) (h0 : -2147483648 ≤ x) (h1 : x ≤ 2147483648) : (Lib.itoa x).length ≤ 11 := by
  unfold Lib.itoa
  split
  · have := dec_len2 x.natAbs (by omega); simp; omega
  · have := dec_len2 x.toNat (by omega); omega
theorem val1 {n : Nd} (h : nodeB n = true) (h1 : n.kind = 1) : -2147483648 ≤ n.val ∧ n.val ≤ 2147483647 := by
  unfold nodeB at h
  simp [h1] at h
  omega
theorem loop_nil (s : ByteArray) (n : Nat) : ∀ i r, s.size - i = n → ByteArray.toList.loop s i r = [] → r = [] := by
  induction n with
  | zero =>
    intro i r hi h
    rw [ByteArray.toList.loop, if_neg (by omega)] at h
    simpa using h
  | succ n ih =>
    intro i r hi h
    rw [ByteArray.toList.loop, if_pos (by omega)] at h
    have := ih (i + 1) _ (by omega) h
    simp at this
theorem nil_size {s : ByteArray} (h : s.toList = []) : s.size = 0 := by
  rcases Nat.eq_zero_or_pos s.size with h0 | hp
  · exact h0
  · rw [ByteArray.toList, ByteArray.toList.loop, if_pos hp] at h
    have := loop_nil s _ _ _ rfl h
    simp at this
theorem name_len {n : Nd} (h : nodeB n = true) : n.name.size ≤ 20 := by
  have hn : ∀ s, nameB s = true → s.size ≤ 20 := by
    intro s hs
    have : nameP s := by simpa [nameB] using hs
    exact this.2.1
  have h0 : n.name.toList = [] → n.name.size ≤ 20 := by
    intro h
    rw [nil_size h]
    decide
  unfold nodeB at h
  split at h <;> (try split at h) <;> (try split at h) <;> (try split at h) <;> (try split at h) <;> (try split at h) <;> simp at h
  all_goals first | exact hn _ h.2 | exact h0 h.2 | (apply h0; simp [h.2])

theorem Cut.root_good {e : List Nd} {A : Nat} {b : Nat → Nat} (h : Cut e A b) : nodeB (rootN e) = true := by
  rw [rootN_eq e h.len]
  exact h.good _ (List.getElem_mem _)
theorem Cut.arA {e : List Nd} {A : Nat} {b : Nat → Nat} (h : Cut e A b) : A ≤ 6 := by
  have := arity_good h.root_good
  have := h.ar
  omega
theorem commas_len {e : List Nd} {A : Nat} {b : Nat → Nat} {S : Nat → List UInt8} (h : Cut e A b) (hS : ∀ i, i < A → (S i).length ≤ 40 * (kid e b i).length) : ∀ i, i ≤ A → (commas S i).length ≤ 40 * b i + 2 * i := by
  intro i
  induction i with
  | zero => intro _; simp [commas]
  | succ i ih =>
    intro hi
    have h1 := ih (by omega)
    have h2 := hS i (by omega)
    rw [h.kid_len i (by omega)] at h2
    have h3 := (h.beg i (by omega)).1
    simp only [commas, List.length_append]
    have h4 : (if i = 0 then ([] : List UInt8) else [44, 32]).length ≤ 2 := by split <;> simp
    omega

theorem Pr.len {e : List Nd} {s : List UInt8} (h : Pr e s) : s.length ≤ 40 * e.length := by
  induction h using Pr.ind with
  | mk e A b S hc hk ih =>
    have hr := hc.root_good
    have hl := hc.len
    have hA := hc.ar
    have h6 := hc.arA
    have hn := name_len hr
    have hnl := tx_len (rootN e).name
    have hlast := hc.last
    unfold show1
    split
    · rename_i h1
      have := val1 hr h1
      have := itoa_len (rootN e).val (by omega) (by omega)
      omega
    · split
      · omega
      · split
        · rename_i h3
          have e1 : A = 1 := by have : arity (rootN e) = 1 := by simp [arity, h3]
                                omega
          subst e1
          have h0 := ih 0 (by omega)
          rw [hc.kid_len 0 (by omega)] at h0
          simp only [List.length_append, List.length_cons, List.length_nil, hnl, Nat.zero_add] at h0 ⊢
          omega
        · split
          · have := commas_len hc ih A (Nat.le_refl _)
            simp only [List.length_append, List.length_cons, List.length_nil, hnl]
            omega
          · split
            · simp; omega
            · split
              · rename_i h6'
                have e1 : A = 1 := by have : arity (rootN e) = 1 := by simp [arity, h6']
                                      omega
                subst e1
                have h0 := ih 0 (by omega)
                rw [hc.kid_len 0 (by omega)] at h0
                have hu := un_len (rootN e).val.toNat
                have hh := held_len (S 0) (decide (strN (rootN (kid e b 0)) < 11))
                simp only [List.length_append, Nat.zero_add] at h0 ⊢
                omega
              · have hkk := kind_good hr
                have e1 : A = 2 := by have : arity (rootN e) = 2 := by
                                        unfold arity
                                        rw [if_neg (by omega), if_neg (by omega), if_pos (by omega)]
                                      omega
                subst e1
                have h0 := ih 0 (by omega)
                have h1 := ih 1 (by omega)
                rw [hc.kid_len 0 (by omega)] at h0
                rw [hc.kid_len 1 (by omega)] at h1
                have b0 := (hc.beg 0 (by omega)).1
                have b1 := (hc.beg 1 (by omega)).1
                have hw := word_len (rootN e)
                have hh := held_len (S 0) (decide (strN (rootN (kid e b 0)) < strN (rootN e)))
                have hh1 := held_len (S 1) (decide (strN (rootN (kid e b 1)) ≤ strN (rootN e)))
                simp only [List.length_append, List.length_cons, List.length_nil, Nat.zero_add, Nat.reduceAdd] at h0 h1 b0 b1 hlast ⊢
                omega

theorem Nodes.cut {w : World} {a : Option Addr} {cap : Nat} {ns : List Nd} (h : Nodes w (.slice a ns.length cap) ns) (lo hi : Nat) (h1 : lo ≤ hi) (h2 : hi ≤ ns.length) :
    Nodes w (.slice (if cap = lo then a else a.map (·.add (lo * 3))) (hi - lo) (cap - lo)) ((ns.take hi).drop lo) := by
  obtain ⟨a', cap', he, hl, hm, h⟩ := h
  simp only [Value.slice.injEq, true_and] at he
  obtain ⟨rfl, rfl⟩ := he
  refine ⟨if cap = lo then a else a.map (·.add (lo * 3)), cap - lo, by simp [Nat.min_eq_left h2], by simp [Nat.min_eq_left h2]; omega, by omega, fun h0 => ?_⟩
  simp only [List.length_drop, List.length_take, Nat.min_eq_left h2] at h0
  obtain ⟨b, off, rfl, hc⟩ := h (by omega)
  refine ⟨b, off + lo * 3, ?_, fun j hj => ?_⟩
  · rw [if_neg (by omega)]; simp [Addr.add]
  · simp only [List.length_drop, List.length_take, Nat.min_eq_left h2] at hj
    have hcc := hc (lo + j) (by omega)
    have e : ((ns.take hi).drop lo)[j]'(by simp; omega) = ns[lo + j]'(by omega) := by simp
    rw [e]
    have e1 : off + lo * 3 + j * 3 = off + (lo + j) * 3 := by omega
    rw [e1]
    exact hcc
theorem Nodes.head {w : World} {a : Option Addr} {cap : Nat} {ns : List Nd} (h : Nodes w (.slice a ns.length cap) ns) (hi : Nat) (h2 : hi ≤ ns.length) : Nodes w (.slice a hi cap) (ns.take hi) := by
  have := h.cut 0 hi (Nat.zero_le _) h2
  have e : (if cap = 0 then a else a.map (·.add (0 * 3))) = a := by
    split
    · rfl
    · cases a <;> simp [Addr.add]
  rw [e] at this
  simpa using this
theorem ncut_run (a : Option Addr) (n cap lo hi : Nat) (h1 : lo ≤ hi) (h2 : hi ≤ n) (h3 : n ≤ cap) : ∀ w : World, (Instr.slice 69 (.slice a n cap) (some (.int .i64 lo)) (some (.int .i64 hi)) none).run Tryz.prog w = .ok (.slice (if cap = lo then a else a.map (·.add (lo * 3))) (hi - lo) (cap - lo)) w := by
  intro w
  have hz : Tryz.prog.elem 69 = 90 := by kernel_rfl
  have hs : (sizeOf 90).run Tryz.prog w = .ok 3 w := by kernel_rfl
  rw [run_slice_lh w 69 a n cap (by rw [hz]; exact Tryz.underlying69) .i64 .i64 _ _ (by omega) (by omega) (by omega), hz, hs]
  simp only [Result.andThen, sliced, Int.toNat_natCast]
theorem ncut_run_l (a : Option Addr) (n cap lo : Nat) (h2 : lo ≤ n) (h3 : n ≤ cap) : ∀ w : World, (Instr.slice 69 (.slice a n cap) (some (.int .i64 lo)) none none).run Tryz.prog w = .ok (.slice (if cap = lo then a else a.map (·.add (lo * 3))) (n - lo) (cap - lo)) w := by
  intro w
  have hz : Tryz.prog.elem 69 = 90 := by kernel_rfl
  have hs : (sizeOf 90).run Tryz.prog w = .ok 3 w := by kernel_rfl
  rw [run_slice_l w 69 a n cap (by rw [hz]; exact Tryz.underlying69) .i64 _ (by omega) (by omega), hz, hs]
  simp only [Result.andThen, sliced, Int.toNat_natCast]

end Go.Proofs.YtjnnepkoeloekaaGreatDoor
