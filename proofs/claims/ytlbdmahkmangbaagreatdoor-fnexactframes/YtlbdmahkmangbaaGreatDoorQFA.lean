import Derived.Test.YtlbdmahkmangbaaGreatDoorQPA
import Derived.RowKit
namespace Go.Proofs.YtlbdmahkmangbaaGreatDoor
open Go.RowKit
set_option linter.unusedVariables false
set_option linter.unusedSimpArgs false

def numN (v : Int) : List Nd := [⟨1, v, ⟨#[]⟩⟩]
/-- Whether an expression is one number, and which. -/
def isN : List Nd → Option Int
  | [n] => if n.kind = 1 then some n.val else none
  | _ => none
def boolN (b : Bool) : Int := if b then 1 else 0
def w32 (x : Int) : Int := wrap32 x
def unN (op a : Int) : Int := if op = 0 then w32 (-a) else if op = 1 then boolN (decide (a = 0)) else w32 (-1 - a)
def truthL (e : List Nd) : List Nd := match isN e with
  | some v => numN (boolN (decide (v ≠ 0)))
  | none => e ++ [⟨1, 0, ⟨#[]⟩⟩, ⟨7, 12, ⟨#[]⟩⟩]
/-- The operands one behind the other. -/
def joinF (F : Nat → List Nd) : Nat → List Nd
  | 0 => []
  | i + 1 => joinF F i ++ F i
/-- A node whose operands are folded already; ap: what the binary operators give. -/
def fold1 (ap : Int → Int → Int → Int) (n : Nd) (A : Nat) (F : Nat → List Nd) : List Nd :=
  if n.kind = 6 then (match isN (F 0) with | some x => numN (unN n.val x) | none => F 0 ++ [n])
  else if n.kind = 7 then (match isN (F 0), isN (F 1) with | some x, some y => numN (ap n.val x y) | _, _ => F 0 ++ F 1 ++ [n])
  else if n.kind = 8 then (match isN (F 0) with | some x => if x = 0 then numN 0 else truthL (F 1) | none => F 0 ++ F 1 ++ [n])
  else if n.kind = 9 then (match isN (F 0) with | some x => if x = 0 then truthL (F 1) else numN 1 | none => F 0 ++ F 1 ++ [n])
  else joinF F A ++ [n]
structure FdC (ap:Int → Int → Int → Int)(P:List Nd→List Nd→Prop):Prop where
 c_::
 mk(e:List Nd)(A:Nat)(b:Nat → Nat)(F:Nat → List Nd):Cut e A b→(∀ i, i < A → P (kid e b i) (F i))→P e (fold1 ap (rootN e) A F)
structure Fd (ap:Int → Int → Int → Int)(a0:List Nd)(a1:List Nd):Prop where
 c_::
 out:∀P,FdC ap P→P a0 a1
theorem Fd.C{ap:Int → Int → Int → Int}:FdC ap (Fd ap):=⟨fun e A b F q0 q1=>⟨fun P h=>h.mk e A b F q0 (fun i r0=>(q1 i r0).out P h)⟩⟩
abbrev Fd.mk {ap}:=(Fd.C:FdC ap _).mk
theorem Fd_i{ap:Int → Int → Int → Int}{M:∀(a0:List Nd)(a1:List Nd),Fd ap a0 a1→Prop}
 (mk:∀(e:List Nd)(A:Nat)(b:Nat → Nat)(F:Nat → List Nd),Cut e A b→∀q1:∀ i, i < A → Fd ap (kid e b i) (F i),(∀ i (r0 : i < A),M (kid e b i) (F i) (q1 i r0))→∀t,M e (fold1 ap (rootN e) A F) t)
 {a0:List Nd}{a1:List Nd}(t:Fd ap a0 a1):M a0 a1 t:=
 (t.out (fun a0 a1=>∃z_,M a0 a1 z_) ⟨fun e A b F q0 q1=>⟨.mk e A b F q0 (fun i r0=>(q1 i r0).1),mk e A b F q0 _ (fun i r0=>(q1 i r0).2) _⟩⟩).2

theorem Fd.exists (ap : Int → Int → Int → Int) (N : Nat) : ∀ e : List Nd, e.length ≤ N → oneB e = true → ∃ s, Fd ap e s := by
  induction N with
  | zero => intro e hl h; have := one_pos h; omega
  | succ N ih =>
    intro e hl h
    obtain ⟨A, b, hc, hk⟩ := one_cuts h
    have : ∀ i, ∃ s, i < A → Fd ap (kid e b i) s := by
      intro i
      by_cases hi : i < A
      · obtain ⟨s, hs⟩ := ih (kid e b i) (by have := hc.kid_lt i hi; omega) (hk i hi)
        exact ⟨s, fun _ => hs⟩
      · exact ⟨[], fun h => absurd h hi⟩
    exact ⟨_, Fd.mk e A b (fun i => (this i).choose) hc (fun i hi => (this i).choose_spec hi)⟩
theorem begP_one {ns : List Nd} {k i j : Nat} (h : begP ns k i) (h' : begP ns k j) : i = j := by
  obtain ⟨a1, a2, a3⟩ := h
  obtain ⟨b1, b2, b3⟩ := h'
  rcases Nat.lt_trichotomy i j with h | h | h
  · have := a3 j h (by omega); omega
  · exact h
  · have := b3 i h (by omega); omega
theorem Cut.one {e : List Nd} {A A' : Nat} {b b' : Nat → Nat} (h : Cut e A b) (h' : Cut e A' b') : A = A' ∧ ∀ i, i ≤ A → b i = b' i := by
  have hA : A = A' := by have := h.ar; have := h'.ar; omega
  subst hA
  refine ⟨rfl, ?_⟩
  have : ∀ d, d ≤ A → b (A - d) = b' (A - d) := by
    intro d
    induction d with
    | zero => intro _; rw [Nat.sub_zero, h.last, h'.last]
    | succ d ih =>
      intro hd
      have e1 := ih (by omega)
      have h1 := h.beg (A - (d + 1)) (by omega)
      have h2 := h'.beg (A - (d + 1)) (by omega)
      rw [show A - (d + 1) + 1 = A - d by omega] at h1 h2
      rw [← e1] at h2
      exact begP_one h1 h2
  intro i hi
  have := this (A - i) (by omega)
  rwa [show A - (A - i) = i by omega] at this
theorem joinF_congr {F F' : Nat → List Nd} (A : Nat) (h : ∀ i, i < A → F i = F' i) : joinF F A = joinF F' A := by
  induction A with
  | zero => rfl
  | succ A ih => simp only [joinF]; rw [ih (fun i hi => h i (by omega)), h A (by omega)]
/-- How many operands a node has where it has some. -/
theorem Cut.ar1 {e : List Nd} {A : Nat} {b : Nat → Nat} (h : Cut e A b) (hk : (rootN e).kind = 3 ∨ (rootN e).kind = 6) : A = 1 := by
  have := h.ar
  unfold arity at this
  rw [if_pos hk] at this
  omega
theorem Cut.ar2 {e : List Nd} {A : Nat} {b : Nat → Nat} (h : Cut e A b) (hk : (rootN e).kind = 7 ∨ (rootN e).kind = 8 ∨ (rootN e).kind = 9) : A = 2 := by
  have := h.ar
  unfold arity at this
  rw [if_neg (by omega), if_neg (by omega), if_pos hk] at this
  omega
theorem fold1_congr (ap : Int → Int → Int → Int) {e : List Nd} {A : Nat} {b : Nat → Nat} (hc : Cut e A b) {F F' : Nat → List Nd} (h : ∀ i, i < A → F i = F' i) : fold1 ap (rootN e) A F = fold1 ap (rootN e) A F' := by
  unfold fold1
  split
  · rename_i hk
    have := hc.ar1 (.inr hk)
    rw [h 0 (by omega)]
  · split
    · rename_i hk
      have := hc.ar2 (.inl hk)
      rw [h 0 (by omega), h 1 (by omega)]
    · split
      · rename_i hk
        have := hc.ar2 (.inr (.inl hk))
        rw [h 0 (by omega), h 1 (by omega)]
      · split
        · rename_i hk
          have := hc.ar2 (.inr (.inr hk))
          rw [h 0 (by omega), h 1 (by omega)]
        · rw [joinF_congr A h]
theorem Fd.one {ap : Int → Int → Int → Int} {e r r' : List Nd} (h : Fd ap e r) (h' : Fd ap e r') : r = r' := by
  induction h using Fd_i generalizing r' with
  | mk e A b F hc hk ih =>
    cases h' using Fd_i with
    | mk _ A' b' F' hc' hk' =>
      obtain ⟨rfl, hb⟩ := hc.one hc'
      have : ∀ i, i < A → F i = F' i := fun i hi => ih i hi (by
        have e1 : kid e b i = kid e b' i := by unfold kid; rw [hb i (by omega), hb (i + 1) (by omega)]
        rw [e1]
        exact hk' i hi)
      exact fold1_congr ap hc this
theorem joinF_len {e : List Nd} {A : Nat} {b : Nat → Nat} {F : Nat → List Nd} (hc : Cut e A b) (h : ∀ i, i < A → (F i).length ≤ (kid e b i).length) : ∀ i, i ≤ A → (joinF F i).length ≤ b i := by
  intro i
  induction i with
  | zero => intro _; simp [joinF]
  | succ i ih =>
    intro hi
    have h1 := ih (by omega)
    have h2 := h i (by omega)
    rw [hc.kid_len i (by omega)] at h2
    have h3 := (hc.beg i (by omega)).1
    simp only [joinF, List.length_append]
    omega
theorem truthL_len (e : List Nd) : (truthL e).length ≤ e.length + 2 := by
  unfold truthL
  split <;> simp [numN]
theorem Fd.len {ap : Int → Int → Int → Int} {e r : List Nd} (h : Fd ap e r) : r.length ≤ e.length := by
  induction h using Fd_i with
  | mk e A b F hc hk ih =>
    have hl := hc.len
    have hlast := hc.last
    have hj := joinF_len hc ih A (Nat.le_refl _)
    unfold fold1
    split
    · rename_i hk1
      have e1 := hc.ar1 (.inr hk1)
      subst e1
      have h0 := ih 0 (by omega)
      rw [hc.kid_len 0 (by omega)] at h0
      split
      · simp [numN]; omega
      · simp only [List.length_append, List.length_cons, List.length_nil, Nat.zero_add] at *; omega
    · split
      · rename_i hk1
        have e1 := hc.ar2 (.inl hk1)
        subst e1
        have h0 := ih 0 (by omega)
        have h1 := ih 1 (by omega)
        have b0 := (hc.beg 0 (by omega)).1
        have b1 := (hc.beg 1 (by omega)).1
        rw [hc.kid_len 0 (by omega)] at h0
        rw [hc.kid_len 1 (by omega)] at h1
        split
        · simp [numN]; omega
        · simp only [List.length_append, List.length_cons, List.length_nil, Nat.zero_add, Nat.reduceAdd] at *; omega
      · split
        · rename_i hk1
          have e1 := hc.ar2 (.inr (.inl hk1))
          subst e1
          have h0 := ih 0 (by omega)
          have h1 := ih 1 (by omega)
          have b0 := (hc.beg 0 (by omega)).1
          have b1 := (hc.beg 1 (by omega)).1
          rw [hc.kid_len 0 (by omega)] at h0
          rw [hc.kid_len 1 (by omega)] at h1
          have ht := truthL_len (F 1)
          simp only [Nat.zero_add, Nat.reduceAdd] at *
          split
          · split
            · simp [numN]; omega
            · omega
          · simp only [List.length_append, List.length_cons, List.length_nil] at *; omega
        · split
          · rename_i hk1
            have e1 := hc.ar2 (.inr (.inr hk1))
            subst e1
            have h0 := ih 0 (by omega)
            have h1 := ih 1 (by omega)
            have b0 := (hc.beg 0 (by omega)).1
            have b1 := (hc.beg 1 (by omega)).1
            rw [hc.kid_len 0 (by omega)] at h0
            rw [hc.kid_len 1 (by omega)] at h1
            have ht := truthL_len (F 1)
            simp only [Nat.zero_add, Nat.reduceAdd] at *
            split
            · split
              · omega
              · simp [numN]; omega
            · simp only [List.length_append, List.length_cons, List.length_nil] at *; omega
          · simp only [List.length_append, List.length_cons, List.length_nil]; omega

end Go.Proofs.YtlbdmahkmangbaaGreatDoor

namespace Go.Proofs.YtlbdmahkmangbaaGreatDoor
set_option linter.unusedVariables false
set_option linter.unusedSimpArgs false

/-- How many places a call needs: its own, and those of its operands, each in its place. -/
def callM (G : Nat → Int → Int) : Nat → Int → Int
  | 0, d => d + 1
  | i + 1, d => max (callM G i d) (G i (d + i))
/-- How many places a node needs whose operands need these. -/
def need1 (n : Nd) (A : Nat) (G : Nat → Int → Int) : Int → Int :=
  if n.kind = 3 ∨ n.kind = 6 then G 0
  else if n.kind = 7 then fun d => max (G 0 d) (G 1 (d + 1))
  else if n.kind = 8 ∨ n.kind = 9 then fun d => max (G 0 d) (G 1 d)
  else callM G A
/-- An expression as a run over a stack. -/
def evS (stk : List (Int → Int)) (n : Nd) : List (Int → Int) := need1 n (arity n).toNat (fun i => stk.getD ((arity n).toNat - 1 - i) (fun d => d)) :: stk.drop (arity n).toNat
def evN (e : List Nd) (stk : List (Int → Int)) : List (Int → Int) := e.foldl evS stk
theorem evN_append (a b : List Nd) (stk : List (Int → Int)) : evN (a ++ b) stk = evN b (evN a stk) := by simp [evN]
/-- An expression needs these places. -/
def NF (e : List Nd) (g : Int → Int) : Prop := ∀ stk, evN e stk = g :: stk
theorem NF.one {e : List Nd} {g h : Int → Int} (hg : NF e g) (hh : NF e h) : g = h := by
  have h1 := hg []
  rw [hh []] at h1
  simpa using h1.symm
theorem callM_congr {G H : Nat → Int → Int} : ∀ (A : Nat), (∀ i, i < A → G i = H i) → callM G A = callM H A
  | 0, _ => rfl
  | A + 1, h => by
    funext d
    simp only [callM]
    rw [callM_congr A (fun i hi => h i (by omega)), h A (by omega)]
theorem need1_congr {n : Nd} {A : Nat} {G H : Nat → Int → Int} (h3 : n.kind = 3 ∨ n.kind = 6 → 1 ≤ A) (h7 : n.kind = 7 ∨ n.kind = 8 ∨ n.kind = 9 → 2 ≤ A) (h : ∀ i, i < A → G i = H i) : need1 n A G = need1 n A H := by
  unfold need1
  split
  · rename_i hk; exact h 0 (by have := h3 hk; omega)
  · split
    · rename_i hk; rw [h 0 (by have := h7 (.inl hk); omega), h 1 (by have := h7 (.inl hk); omega)]
    · split
      · rename_i hk; rw [h 0 (by have := h7 (.inr hk); omega), h 1 (by have := h7 (.inr hk); omega)]
      · exact callM_congr A h
/-- Operands one behind the other leave one entry each, the last on top. -/
theorem joinF_ev {F : Nat → List Nd} {G : Nat → Int → Int} : ∀ (A : Nat) (stk : List (Int → Int)), (∀ i, i < A → NF (F i) (G i)) → evN (joinF F A) stk = ((List.range A).map G).reverse ++ stk
  | 0, stk, _ => rfl
  | A + 1, stk, h => by
    rw [joinF, evN_append, joinF_ev A stk (fun i hi => h i (by omega)), h A (by omega), List.range_succ]
    simp
theorem rev_getD {G : Nat → Int → Int} {A i : Nat} (stk : List (Int → Int)) (hi : i < A) : (((List.range A).map G).reverse ++ stk).getD (A - 1 - i) (fun d => d) = G i := by
  have hl : A - 1 - i < ((List.range A).map G).reverse.length := by simp; omega
  simp only [List.getD]
  rw [List.getElem?_append_left hl, List.getElem?_eq_getElem hl]
  simp only [Option.getD_some, List.getElem_reverse, List.getElem_map, List.getElem_range, List.length_map, List.length_range]
  congr 1
  omega
/-- A node behind its operands. -/
theorem NF.node {n : Nd} (hn : nodeB n = true) {A : Nat} (hA : arity n = A) {F : Nat → List Nd} {G : Nat → Int → Int} (h : ∀ i, i < A → NF (F i) (G i)) : NF (joinF F A ++ [n]) (need1 n A G) := by
  intro stk
  have e : (arity n).toNat = A := by omega
  rw [evN_append, joinF_ev A stk h]
  show evS (((List.range A).map G).reverse ++ stk) n = _
  unfold evS
  rw [e]
  have hd : (((List.range A).map G).reverse ++ stk).drop A = stk := by
    rw [List.drop_append_of_le_length (by simp)]
    simp
  rw [hd, need1_congr (H := G) (fun hk => ?_) (fun hk => ?_) (fun i hi => rev_getD stk hi)]
  · rcases hk with hk | hk <;> (simp [arity, hk] at hA; omega)
  · rcases hk with hk | hk | hk <;> (simp [arity, hk] at hA; omega)
theorem kid_join {e : List Nd} {A : Nat} {b : Nat → Nat} (hc : Cut e A b) : ∀ i, i ≤ A → joinF (kid e b) i = e.take (b i) := by
  intro i
  induction i with
  | zero => intro _; rw [hc.first]; rfl
  | succ i ih =>
    intro hi
    have hb := (hc.beg i (by omega)).1
    rw [joinF, ih (by omega), kid]
    have e1 : e.take (b i) = (e.take (b (i + 1))).take (b i) := by rw [List.take_take]; congr 1; omega
    rw [e1, List.take_append_drop]
theorem cut_join {e : List Nd} {A : Nat} {b : Nat → Nat} (hc : Cut e A b) : joinF (kid e b) A ++ [rootN e] = e := by
  have hl := hc.len
  rw [kid_join hc A (Nat.le_refl _), hc.last, rootN_eq e hl]
  have := List.take_succ_eq_append_getElem (l := e) (i := e.length - 1) (by omega)
  rw [← this, show e.length - 1 + 1 = e.length by omega, List.take_length]
theorem NF.cut {e : List Nd} {A : Nat} {b : Nat → Nat} (hc : Cut e A b) {G : Nat → Int → Int} (h : ∀ i, i < A → NF (kid e b i) (G i)) : NF e (need1 (rootN e) A G) := by
  have := NF.node hc.root_good hc.ar h
  rw [cut_join hc] at this
  exact this
/-- What an expression needs lies within its length. -/
def NFb (L : Nat) (g : Int → Int) : Prop := ∀ d, d ≤ g d ∧ g d ≤ d + 7 * L
theorem callM_bd {G : Nat → Int → Int} {L : Nat} : ∀ (A : Nat) (d : Int), A ≤ 6 → (∀ i, i < A → NFb L (G i)) → d ≤ callM G A d ∧ callM G A d ≤ d + 7 * (L + 1)
  | 0, d, _, _ => by simp only [callM]; omega
  | A + 1, d, hA, h => by
    obtain ⟨h1, h2⟩ := callM_bd A d (by omega) (fun i hi => h i (by omega))
    have h3 := h A (by omega) (d + A)
    simp only [callM]
    omega
theorem need1_bd {n : Nd} {A L : Nat} {G : Nat → Int → Int} (hn : nodeB n = true) (hA : arity n = A) (h : ∀ i, i < A → NFb L (G i)) : NFb (L + 1) (need1 n A G) := by
  intro d
  have h6 := (arity_good hn).2
  unfold need1
  split
  · rename_i hk
    have e : A = 1 := by rcases hk with hk | hk <;> (simp [arity, hk] at hA; omega)
    have := h 0 (by omega) d
    omega
  · split
    · rename_i hk
      have e : A = 2 := by simp [arity, hk] at hA; omega
      have := h 0 (by omega) d
      have := h 1 (by omega) (d + 1)
      simp only
      omega
    · split
      · rename_i hk
        have e : A = 2 := by rcases hk with hk | hk <;> (simp [arity, hk] at hA; omega)
        have := h 0 (by omega) d
        have := h 1 (by omega) d
        simp only
        omega
      · exact callM_bd A d (by omega) h
theorem NFb.mono {L M : Nat} {g : Int → Int} (h : NFb L g) (hl : L ≤ M) : NFb M g := fun d => by have := h d; omega
theorem NF.exists (N : Nat) : ∀ e : List Nd, e.length ≤ N → oneB e = true → ∃ g, NF e g ∧ NFb e.length g := by
  induction N with
  | zero => intro e hl h; have := one_pos h; omega
  | succ N ih =>
    intro e hl h
    obtain ⟨A, b, hc, hk⟩ := one_cuts h
    have h0 : ∀ i, ∃ g, i < A → NF (kid e b i) g ∧ NFb (kid e b i).length g := by
      intro i
      by_cases hi : i < A
      · obtain ⟨g, hg⟩ := ih (kid e b i) (by have := hc.kid_lt i hi; omega) (hk i hi)
        exact ⟨g, fun _ => hg⟩
      · exact ⟨fun d => d, fun h => absurd h hi⟩
    refine ⟨_, NF.cut hc (G := fun i => (h0 i).choose) (fun i hi => ((h0 i).choose_spec hi).1), ?_⟩
    have := need1_bd (L := e.length - 1) hc.root_good hc.ar (fun i hi => (((h0 i).choose_spec hi).2).mono (by have := hc.kid_lt i hi; omega))
    rw [show e.length - 1 + 1 = e.length by have := hc.len; omega] at this
    exact this

end Go.Proofs.YtlbdmahkmangbaaGreatDoor
