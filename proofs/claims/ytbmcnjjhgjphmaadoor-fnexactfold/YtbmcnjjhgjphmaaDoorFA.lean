import Derived.Test.YtbmcnjjhgjphmaaDoorPB
import Derived.RowKit
namespace Go.Proofs.YtbmcnjjhgjphmaaDoor
open Go.RowKit
set_option linter.unusedVariables false
set_option linter.unusedSimpArgs false

def numN (v : Int) : List Nd := [⟨1, v, ⟨#[]⟩⟩]
/-- Whether an expression is one number, and which. -/
def isN : List Nd → Option Int
  | [n] => if n.kind = 1 then some n.val else none
  | _ => none
def boolN (b : Bool) : Int := if b then 1 else 0
def w32 (x : Int) : Int := wrap32 x
def unN (op a : Int) : Int := if op = 0 then w32 (-a) else if op = 1 then boolN (decide (a = 0)) else w32 (-1 - a)
def truthL (e : List Nd) : List Nd := match isN e with
  | some v => numN (boolN (decide (v ≠ 0)))
  | none => e ++ [⟨1, 0, ⟨#[]⟩⟩, ⟨7, 12, ⟨#[]⟩⟩]
/-- The operands one behind the other. -/
def joinF (F : Nat → List Nd) : Nat → List Nd
  | 0 => []
  | i + 1 => joinF F i ++ F i
/-- A node whose operands are folded already; ap: what the binary operators give. -/
def fold1 (ap : Int → Int → Int → Int) (n : Nd) (A : Nat) (F : Nat → List Nd) : List Nd :=
  if n.kind = 6 then (match isN (F 0) with | some x => numN (unN n.val x) | none => F 0 ++ [n])
  else if n.kind = 7 then (match isN (F 0), isN (F 1) with | some x, some y => numN (ap n.val x y) | _, _ => F 0 ++ F 1 ++ [n])
  else if n.kind = 8 then (match isN (F 0) with | some x => if x = 0 then numN 0 else truthL (F 1) | none => F 0 ++ F 1 ++ [n])
  else if n.kind = 9 then (match isN (F 0) with | some x => if x = 0 then truthL (F 1) else numN 1 | none => F 0 ++ F 1 ++ [n])
  else joinF F A ++ [n]
structure Fd (ap : Int → Int → Int → Int) (a0_ : List Nd) (a1_ : List Nd) : Prop where
  c_ ::
  out : ∀ (P_ : List Nd → List Nd → Prop), (∀ (e : List Nd) (A : Nat) (b : Nat → Nat) (F : Nat → List Nd), Cut e A b → (∀ i, i < A → P_ (kid e b i) (F i)) → P_ e (fold1 ap (rootN e) A F)) → P_ a0_ a1_
theorem Fd.mk {ap : Int → Int → Int → Int} (e : List Nd) (A : Nat) (b : Nat → Nat) (F : Nat → List Nd) (hc : Cut e A b) (hk : ∀ i, i < A → Fd ap (kid e b i) (F i)) : Fd ap e (fold1 ap (rootN e) A F) := ⟨fun P_ h0_ => h0_ e A b F hc (fun i r0_ => (hk i r0_).out P_ h0_)⟩
theorem Fd.ind {ap : Int → Int → Int → Int} {motive : ∀ (a0_ : List Nd) (a1_ : List Nd), Fd ap a0_ a1_ → Prop}
    (mk : ∀ (e : List Nd) (A : Nat) (b : Nat → Nat) (F : Nat → List Nd) (hc : Cut e A b) (hk : ∀ i, i < A → Fd ap (kid e b i) (F i)) (hki : ∀ i (r0_ : i < A), motive (kid e b i) (F i) (hk i r0_)), motive e (fold1 ap (rootN e) A F) (Fd.mk e A b F hc hk))
    {a0_ : List Nd} {a1_ : List Nd} (t_ : Fd ap a0_ a1_) : motive a0_ a1_ t_ :=
  (t_.out (fun a0_ a1_ => ∃ z_ : Fd ap a0_ a1_, motive a0_ a1_ z_)
    (fun e A b F hc hk => ⟨Fd.mk e A b F hc (fun i r0_ => (hk i r0_).1), mk e A b F hc (fun i r0_ => (hk i r0_).1) (fun i r0_ => (hk i r0_).2)⟩)).2

theorem Fd.exists (ap : Int → Int → Int → Int) (N : Nat) : ∀ e : List Nd, e.length ≤ N → oneB e = true → ∃ s, Fd ap e s := by
  induction N with
  | zero => intro e hl h; have := one_pos h; omega
  | succ N ih =>
    intro e hl h
    obtain ⟨A, b, hc, hk⟩ := one_cuts h
    have : ∀ i, ∃ s, i < A → Fd ap (kid e b i) s := by
      intro i
      by_cases hi : i < A
      · obtain ⟨s, hs⟩ := ih (kid e b i) (by have := hc.kid_lt i hi; omega) (hk i hi)
        exact ⟨s, fun _ => hs⟩
      · exact ⟨[], fun h => absurd h hi⟩
    exact ⟨_, Fd.mk e A b (fun i => (this i).choose) hc (fun i hi => (this i).choose_spec hi)⟩
theorem begP_one {ns : List Nd} {k i j : Nat} (h : begP ns k i) (h' : begP ns k j) : i = j := by
  obtain ⟨a1, a2, a3⟩ := h
  obtain ⟨b1, b2, b3⟩ := h'
  rcases Nat.lt_trichotomy i j with h | h | h
  · have := a3 j h (by omega); omega
  · exact h
  · have := b3 i h (by omega); omega
theorem Cut.one {e : List Nd} {A A' : Nat} {b b' : Nat → Nat} (h : Cut e A b) (h' : Cut e A' b') : A = A' ∧ ∀ i, i ≤ A → b i = b' i := by
  have hA : A = A' := by have := h.ar; have := h'.ar; omega
  subst hA
  refine ⟨rfl, ?_⟩
  have : ∀ d, d ≤ A → b (A - d) = b' (A - d) := by
    intro d
    induction d with
    | zero => intro _; rw [Nat.sub_zero, h.last, h'.last]
    | succ d ih =>
      intro hd
      have e1 := ih (by omega)
      have h1 := h.beg (A - (d + 1)) (by omega)
      have h2 := h'.beg (A - (d + 1)) (by omega)
      rw [show A - (d + 1) + 1 = A - d by omega] at h1 h2
      rw [← e1] at h2
      exact begP_one h1 h2
  intro i hi
  have := this (A - i) (by omega)
  rwa [show A - (A - i) = i by omega] at this
theorem joinF_congr {F F' : Nat → List Nd} (A : Nat) (h : ∀ i, i < A → F i = F' i) : joinF F A = joinF F' A := by
  induction A with
  | zero => rfl
  | succ A ih => simp only [joinF]; rw [ih (fun i hi => h i (by omega)), h A (by omega)]
/-- How many operands a node has where it has some. -/
theorem Cut.ar1 {e : List Nd} {A : Nat} {b : Nat → Nat} (h : Cut e A b) (hk : (rootN e).kind = 3 ∨ (rootN e).kind = 6) : A = 1 := by
  have := h.ar
  unfold arity at this
  rw [if_pos hk] at this
  omega
theorem Cut.ar2 {e : List Nd} {A : Nat} {b : Nat → Nat} (h : Cut e A b) (hk : (rootN e).kind = 7 ∨ (rootN e).kind = 8 ∨ (rootN e).kind = 9) : A = 2 := by
  have := h.ar
  unfold arity at this
  rw [if_neg (by omega), if_neg (by omega), if_pos hk] at this
  omega
theorem fold1_congr (ap : Int → Int → Int → Int) {e : List Nd} {A : Nat} {b : Nat → Nat} (hc : Cut e A b) {F F' : Nat → List Nd} (h : ∀ i, i < A → F i = F' i) : fold1 ap (rootN e) A F = fold1 ap (rootN e) A F' := by
  unfold fold1
  split
  · rename_i hk
    have := hc.ar1 (.inr hk)
    rw [h 0 (by omega)]
  · split
    · rename_i hk
      have := hc.ar2 (.inl hk)
      rw [h 0 (by omega), h 1 (by omega)]
    · split
      · rename_i hk
        have := hc.ar2 (.inr (.inl hk))
        rw [h 0 (by omega), h 1 (by omega)]
      · split
        · rename_i hk
          have := hc.ar2 (.inr (.inr hk))
          rw [h 0 (by omega), h 1 (by omega)]
        · rw [joinF_congr A h]
theorem Fd.one {ap : Int → Int → Int → Int} {e r r' : List Nd} (h : Fd ap e r) (h' : Fd ap e r') : r = r' := by
  induction h using Fd.ind generalizing r' with
  | mk e A b F hc hk ih =>
    cases h' using Fd.ind with
    | mk _ A' b' F' hc' hk' =>
      obtain ⟨rfl, hb⟩ := hc.one hc'
      have : ∀ i, i < A → F i = F' i := fun i hi => ih i hi (by
        have e1 : kid e b i = kid e b' i := by unfold kid; rw [hb i (by omega), hb (i + 1) (by omega)]
        rw [e1]
        exact hk' i hi)
      exact fold1_congr ap hc this
theorem joinF_len {e : List Nd} {A : Nat} {b : Nat → Nat} {F : Nat → List Nd} (hc : Cut e A b) (h : ∀ i, i < A → (F i).length ≤ (kid e b i).length) : ∀ i, i ≤ A → (joinF F i).length ≤ b i := by
  intro i
  induction i with
  | zero => intro _; simp [joinF]
  | succ i ih =>
    intro hi
    have h1 := ih (by omega)
    have h2 := h i (by omega)
    rw [hc.kid_len i (by omega)] at h2
    have h3 := (hc.beg i (by omega)).1
    simp only [joinF, List.length_append]
    omega
theorem truthL_len (e : List Nd) : (truthL e).length ≤ e.length + 2 := by
  unfold truthL
  split <;> simp [numN]
theorem Fd.len {ap : Int → Int → Int → Int} {e r : List Nd} (h : Fd ap e r) : r.length ≤ e.length := by
  induction h using Fd.ind with
  | mk e A b F hc hk ih =>
    have hl := hc.len
    have hlast := hc.last
    have hj := joinF_len hc ih A (Nat.le_refl _)
    unfold fold1
    split
    · rename_i hk1
      have e1 := hc.ar1 (.inr hk1)
      subst e1
      have h0 := ih 0 (by omega)
      rw [hc.kid_len 0 (by omega)] at h0
      split
      · simp [numN]; omega
      · simp only [List.length_append, List.length_cons, List.length_nil, Nat.zero_add] at *; omega
    · split
      · rename_i hk1
        have e1 := hc.ar2 (.inl hk1)
        subst e1
        have h0 := ih 0 (by omega)
        have h1 := ih 1 (by omega)
        have b0 := (hc.beg 0 (by omega)).1
        have b1 := (hc.beg 1 (by omega)).1
        rw [hc.kid_len 0 (by omega)] at h0
        rw [hc.kid_len 1 (by omega)] at h1
        split
        · simp [numN]; omega
        · simp only [List.length_append, List.length_cons, List.length_nil, Nat.zero_add, Nat.reduceAdd] at *; omega
      · split
        · rename_i hk1
          have e1 := hc.ar2 (.inr (.inl hk1))
          subst e1
          have h0 := ih 0 (by omega)
          have h1 := ih 1 (by omega)
          have b0 := (hc.beg 0 (by omega)).1
          have b1 := (hc.beg 1 (by omega)).1
          rw [hc.kid_len 0 (by omega)] at h0
          rw [hc.kid_len 1 (by omega)] at h1
          have ht := truthL_len (F 1)
          simp only [Nat.zero_add, Nat.reduceAdd] at *
          split
          · split
            · simp [numN]; omega
            · omega
          · simp only [List.length_append, List.length_cons, List.length_nil] at *; omega
        · split
          · rename_i hk1
            have e1 := hc.ar2 (.inr (.inr hk1))
            subst e1
            have h0 := ih 0 (by omega)
            have h1 := ih 1 (by omega)
            have b0 := (hc.beg 0 (by omega)).1
            have b1 := (hc.beg 1 (by omega)).1
            rw [hc.kid_len 0 (by omega)] at h0
            rw [hc.kid_len 1 (by omega)] at h1
            have ht := truthL_len (F 1)
            simp only [Nat.zero_add, Nat.reduceAdd] at *
            split
            · split
              · omega
              · simp [numN]; omega
            · simp only [List.length_append, List.length_cons, List.length_nil] at *; omega
          · simp only [List.length_append, List.length_cons, List.length_nil]; omega

end Go.Proofs.YtbmcnjjhgjphmaaDoor
