import Derived.Test.YtefnijmgdcfhiaaGreatDoorQW0
import Derived.Test.YtefnijmgdcfhiaaGreatDoorQV7
import Derived.OwnWalk
import Derived.Laws.MakeOwn
namespace Go.Proofs.YtefnijmgdcfhiaaGreatDoor
set_option linter.unusedVariables false
set_option linter.unusedSimpArgs false

/-- Where the last expression of the first k nodes begins. -/
def begP (ns : List Nd) (k i : Nat) : Prop := i < k ∧ defc ((ns.take k).drop i) = 0 ∧ ∀ j, i < j → j ≤ k → 1 ≤ defc ((ns.take k).drop j)

theorem begP_step (ns : List Nd) (k m : Nat) (hk : k ≤ ns.length) (hm : m < k) : defc ((ns.take k).drop m) = defc ((ns.take k).drop (m + 1)) + arity (ns[m]'(by omega)) - 1 := by
  have h := defc_drop (ns.take k) m (by simp; omega)
  rw [h]
  simp

theorem whole_defc (l : List Nd) (k q : Int) (h : wholeTo l k = some q) : defc l = 1 + k - q := by
  induction l generalizing k with
  | nil => simp only [wholeTo, Option.some.injEq] at h; subst h; simp [defc]
  | cons n r ih =>
    simp only [wholeTo] at h
    split at h
    · have := ih _ h
      simp only [defc]
      omega
    · cases h
theorem whole_take (l : List Nd) (k q : Int) (h : wholeTo l k = some q) (j : Nat) : ∃ p, wholeTo (l.take j) k = some p ∧ wholeTo (l.drop j) p = some q := by
  rw [← List.take_append_drop j l, wholeTo_append] at h
  cases e : wholeTo (l.take j) k with
  | none => rw [e] at h; cases h
  | some p => rw [e] at h; exact ⟨p, rfl, h⟩
theorem whole_pos (l : List Nd) (q : Int) (hl : 0 < l.length) (h : wholeTo l 0 = some q) : 1 ≤ q := by
  obtain ⟨m, hm⟩ : ∃ m, l.length = m + 1 := ⟨l.length - 1, by omega⟩
  obtain ⟨p, h1, h2⟩ := whole_take l 0 q h m
  have := wholeTo_step l m p (by omega) h1
  rw [← hm, List.take_length, h] at this
  split at this
  · rename_i hh
    simp only [Option.some.injEq] at this
    omega
  · cases this
theorem whole_one (l : List Nd) (p : Int) (h : wholeTo l 0 = some p) (m : Nat) (hm : l.length = m + 1) (i : Nat) (hi : i < l.length) (a : Int) (ha : wholeTo (l.take i) 0 = some a) : ∃ c, wholeTo (l.take (i + 1)) 0 = some c ∧ c ≤ a + 1 := by
  obtain ⟨c, h1, h2⟩ := whole_take l 0 p h (i + 1)
  have := wholeTo_step l i a hi ha
  rw [h1] at this
  split at this
  · rename_i hh
    have := arity_good hh.1
    simp only [Option.some.injEq] at *
    exact ⟨c, h1, by omega⟩
  · cases this
theorem whole_cut (l : List Nd) (c : Int) (hc : 0 ≤ c) (h : wholeTo l 0 = some (c + 1)) : ∃ i, i < l.length ∧ wholeTo (l.take i) 0 = some c ∧ ∀ j, i < j → j ≤ l.length → ∃ p, wholeTo (l.take j) 0 = some p ∧ c + 1 ≤ p := by
  have hl : 0 < l.length := by
    cases l with
    | nil => simp only [wholeTo, Option.some.injEq] at h; omega
    | cons => simp
  obtain ⟨m, hm⟩ : ∃ m, l.length = m + 1 := ⟨l.length - 1, by omega⟩
  -- going down from the end
  have key : ∀ d, d ≤ l.length → (∃ i, l.length - d ≤ i ∧ i < l.length ∧ wholeTo (l.take i) 0 = some c ∧ ∀ j, i < j → j ≤ l.length → ∃ p, wholeTo (l.take j) 0 = some p ∧ c + 1 ≤ p) ∨ (∀ j, l.length - d ≤ j → j ≤ l.length → ∃ p, wholeTo (l.take j) 0 = some p ∧ c + 1 ≤ p) := by
    intro d
    induction d with
    | zero =>
      intro _
      refine .inr fun j h1 h2 => ?_
      obtain rfl : j = l.length := by omega
      rw [List.take_length]
      exact ⟨_, h, Int.le_refl _⟩
    | succ d ih =>
      intro hd
      rcases ih (by omega) with ⟨i, h1, h2⟩ | hall
      · exact .inl ⟨i, by omega, h2⟩
      · obtain ⟨a, ha, _⟩ := whole_take l 0 _ h (l.length - (d + 1))
        obtain ⟨c', h1, h2⟩ := whole_one l _ h m hm (l.length - (d + 1)) (by omega) a ha
        obtain ⟨p, hp, hp2⟩ := hall (l.length - (d + 1) + 1) (by omega) (by omega)
        rw [h1] at hp
        simp only [Option.some.injEq] at hp
        by_cases e : a = c
        · subst e
          exact .inl ⟨_, Nat.le_refl _, by omega, ha, fun j h3 h4 => hall j (by omega) h4⟩
        · refine .inr fun j h3 h4 => ?_
          by_cases e2 : j = l.length - (d + 1)
          · subst e2; exact ⟨a, ha, by omega⟩
          · exact hall j (by omega) h4
  rcases key l.length (Nat.le_refl _) with ⟨i, _, h1⟩ | hall
  · exact ⟨i, h1⟩
  · obtain ⟨p, hp, hp2⟩ := hall 0 (by omega) (by omega)
    simp only [List.take_zero, wholeTo, Option.some.injEq] at hp
    omega

theorem whole_beg (e : List Nd) (k : Nat) (c : Int) (hk : k ≤ e.length) (hc : 0 ≤ c) (h : wholeTo (e.take k) 0 = some (c + 1)) :
    ∃ i, begP e k i ∧ wholeTo (e.take i) 0 = some c ∧ oneB ((e.take k).drop i) = true := by
  have hlen : (e.take k).length = k := by simp; omega
  obtain ⟨i, h1, h2, h3⟩ := whole_cut (e.take k) c hc h
  rw [hlen] at h1 h3
  have hd : ∀ j, j ≤ k → ∀ p, wholeTo ((e.take k).take j) 0 = some p → defc ((e.take k).drop j) = p - c := by
    intro j hj p hp
    obtain ⟨p', g1, g2⟩ := whole_take (e.take k) 0 _ h j
    rw [hp] at g1
    simp only [Option.some.injEq] at g1
    subst g1
    have := whole_defc _ _ _ g2
    omega
  have hb : begP e k i := by
    refine ⟨h1, ?_, fun j g1 g2 => ?_⟩
    · rw [hd i (by omega) c h2]; omega
    · obtain ⟨p, hp, hp2⟩ := h3 j g1 g2
      rw [hd j g2 p hp]; omega
  refine ⟨i, hb, ?_, ?_⟩
  · rw [List.take_take, Nat.min_eq_left (by omega)] at h2; exact h2
  · rw [oneB_iff]
    refine ⟨fun n hn => wholeTo_good _ _ _ h n (List.mem_of_mem_drop hn), hb.2.1, fun j g1 g2 => ?_⟩
    rw [List.drop_drop]
    simp only [List.length_drop, hlen] at g2
    exact hb.2.2 (i + j) (by omega) (by omega)

def nd0 : Nd := ⟨1, 0, ⟨#[]⟩⟩
/-- The last node. -/
def rootN (e : List Nd) : Nd := e.getD (e.length - 1) nd0
/-- The operands of an expression lie between the boundaries b 0 .. b A. -/
structure Cut (e : List Nd) (A : Nat) (b : Nat → Nat) : Prop where
  len : 0 < e.length
  ar : arity (rootN e) = A
  good : goodAll e
  last : b A = e.length - 1
  first : b 0 = 0
  beg : ∀ i, i < A → begP e (b (i + 1)) (b i)
def kid (e : List Nd) (b : Nat → Nat) (i : Nat) : List Nd := (e.take (b (i + 1))).drop (b i)

theorem cuts_down (e : List Nd) (he : 0 < e.length) (A : Nat) : ∀ k, k ≤ e.length → wholeTo (e.take k) 0 = some (A : Int) → ∃ b : Nat → Nat, b A = k ∧ b 0 = 0 ∧ ∀ i, i < A → begP e (b (i + 1)) (b i) ∧ oneB (kid e b i) = true := by
  induction A with
  | zero =>
    intro k hk h
    refine ⟨fun _ => 0, ?_, rfl, fun i hi => absurd hi (by omega)⟩
    rcases Nat.eq_zero_or_pos k with rfl | hp
    · rfl
    · have := whole_pos (e.take k) _ (by simp; omega) h
      omega
  | succ A ih =>
    intro k hk h
    obtain ⟨i, h1, h2, h3⟩ := whole_beg e k A hk (by omega) (by rw [h]; rfl)
    obtain ⟨b, g1, g2, g3⟩ := ih i (by have := h1.1; omega) h2
    refine ⟨fun j => if j = A + 1 then k else b j, by simp, by simp [g2], fun j hj => ?_⟩
    by_cases e1 : j = A
    · subst e1
      simp only [kid, if_true, Nat.succ_ne_self, if_neg (show ¬ j = j + 1 by omega), g1]
      exact ⟨h1, h3⟩
    · have := g3 j (by omega)
      simp only [kid, if_neg (show ¬ j = A + 1 by omega), if_neg (show ¬ j + 1 = A + 1 by omega)]
      exact this
theorem rootN_eq (e : List Nd) (h : 0 < e.length) : rootN e = e[e.length - 1]'(by omega) := by
  simp [rootN, List.getD, List.getElem?_eq_getElem (show e.length - 1 < e.length by omega)]
theorem one_pos {e : List Nd} (h : oneB e = true) : 0 < e.length := by
  cases e with
  | nil => simp [oneB, wholeTo] at h
  | cons => simp
theorem one_good {e : List Nd} (h : oneB e = true) : goodAll e := ((oneB_iff e).1 h).1
theorem one_root {e : List Nd} (h : oneB e = true) : nodeB (rootN e) = true := by
  rw [rootN_eq e (one_pos h)]
  exact one_good h _ (List.getElem_mem _)
theorem one_cuts {e : List Nd} (h : oneB e = true) : ∃ A b, Cut e A b ∧ ∀ i, i < A → oneB (kid e b i) = true := by
  have hl := one_pos h
  have h' : wholeTo e 0 = some 1 := by simpa [oneB] using h
  obtain ⟨q, h1, h2⟩ := whole_take e 0 1 h' (e.length - 1)
  have hs := wholeTo_step e (e.length - 1) q (by omega) h1
  rw [show e.length - 1 + 1 = e.length by omega, List.take_length, h'] at hs
  split at hs
  · simp only [Option.some.injEq] at hs
    have hb := arity_good (one_root h)
    rw [rootN_eq e hl] at hb
    obtain ⟨A, hA⟩ : ∃ A : Nat, q = A := ⟨q.toNat, by omega⟩
    subst hA
    obtain ⟨b, g1, g2, g3⟩ := cuts_down e hl A (e.length - 1) (by omega) h1
    exact ⟨A, b, ⟨hl, by rw [rootN_eq e hl]; omega, one_good h, g1, g2, fun i hi => (g3 i hi).1⟩, fun i hi => (g3 i hi).2⟩
  · cases hs


end Go.Proofs.YtefnijmgdcfhiaaGreatDoor

namespace Go.Proofs.YtefnijmgdcfhiaaGreatDoor
set_option linter.unusedVariables false
set_option linter.unusedSimpArgs false

theorem Cut.le {e : List Nd} {A : Nat} {b : Nat → Nat} (h : Cut e A b) : ∀ d, d ≤ A → b (A - d) ≤ e.length - 1 := by
  intro d
  induction d with
  | zero => intro _; rw [Nat.sub_zero, h.last]; exact Nat.le_refl _
  | succ d ih =>
    intro hd
    have := ih (by omega)
    have h2 := (h.beg (A - (d + 1)) (by omega)).1
    rw [show A - (d + 1) + 1 = A - d by omega] at h2
    omega
theorem Cut.le' {e : List Nd} {A : Nat} {b : Nat → Nat} (h : Cut e A b) (i : Nat) (hi : i ≤ A) : b i ≤ e.length - 1 := by
  have := h.le (A - i) (by omega)
  rwa [show A - (A - i) = i by omega] at this
theorem Cut.kid_len {e : List Nd} {A : Nat} {b : Nat → Nat} (h : Cut e A b) (i : Nat) (hi : i < A) : (kid e b i).length = b (i + 1) - b i := by
  have := h.le' (i + 1) (by omega)
  simp [kid]
  omega
theorem Cut.kid_pos {e : List Nd} {A : Nat} {b : Nat → Nat} (h : Cut e A b) (i : Nat) (hi : i < A) : 0 < (kid e b i).length := by
  rw [h.kid_len i hi]
  have := (h.beg i hi).1
  omega
theorem Cut.kid_lt {e : List Nd} {A : Nat} {b : Nat → Nat} (h : Cut e A b) (i : Nat) (hi : i < A) : (kid e b i).length < e.length := by
  rw [h.kid_len i hi]
  have := h.le' (i + 1) (by omega)
  have := h.len
  omega

theorem Cut.root_good {e : List Nd} {A : Nat} {b : Nat → Nat} (h : Cut e A b) : nodeB (rootN e) = true := by
  rw [rootN_eq e h.len]
  exact h.good _ (List.getElem_mem _)
theorem Cut.arA {e : List Nd} {A : Nat} {b : Nat → Nat} (h : Cut e A b) : A ≤ 6 := by
  have := arity_good h.root_good
  have := h.ar
  omega
theorem Cut.kid_root {e : List Nd} {A : Nat} {b : Nat → Nat} (h : Cut e A b) (i : Nat) (hi : i < A) : nodeB (rootN (kid e b i)) = true := by
  rw [rootN_eq _ (h.kid_pos i hi)]
  refine h.good _ ?_
  have : (kid e b i)[(kid e b i).length - 1]'(by have := h.kid_pos i hi; omega) ∈ kid e b i := List.getElem_mem _
  exact List.mem_of_mem_take (List.mem_of_mem_drop this)

end Go.Proofs.YtefnijmgdcfhiaaGreatDoor

namespace Go.Proofs.YtefnijmgdcfhiaaGreatDoor
open Go.RowKit
set_option linter.unusedVariables false
set_option linter.unusedSimpArgs false

theorem Nodes.cut {w : World} {a : Option Addr} {cap : Nat} {ns : List Nd} (h : Nodes w (.slice a ns.length cap) ns) (lo hi : Nat) (h1 : lo ≤ hi) (h2 : hi ≤ ns.length) :
    Nodes w (.slice (if cap = lo then a else a.map (·.add (lo * 3))) (hi - lo) (cap - lo)) ((ns.take hi).drop lo) := by
  obtain ⟨a', cap', he, hl, hm, h⟩ := h
  simp only [Value.slice.injEq, true_and] at he
  obtain ⟨rfl, rfl⟩ := he
  refine ⟨if cap = lo then a else a.map (·.add (lo * 3)), cap - lo, by simp [Nat.min_eq_left h2], by simp [Nat.min_eq_left h2]; omega, by omega, fun h0 => ?_⟩
  simp only [List.length_drop, List.length_take, Nat.min_eq_left h2] at h0
  obtain ⟨b, off, rfl, hc⟩ := h (by omega)
  refine ⟨b, off + lo * 3, ?_, fun j hj => ?_⟩
  · rw [if_neg (by omega)]; simp [Addr.add]
  · simp only [List.length_drop, List.length_take, Nat.min_eq_left h2] at hj
    have hcc := hc (lo + j) (by omega)
    have e : ((ns.take hi).drop lo)[j]'(by simp; omega) = ns[lo + j]'(by omega) := by simp
    rw [e]
    have e1 : off + lo * 3 + j * 3 = off + (lo + j) * 3 := by omega
    rw [e1]
    exact hcc
theorem Nodes.head {w : World} {a : Option Addr} {cap : Nat} {ns : List Nd} (h : Nodes w (.slice a ns.length cap) ns) (hi : Nat) (h2 : hi ≤ ns.length) : Nodes w (.slice a hi cap) (ns.take hi) := by
  have := h.cut 0 hi (Nat.zero_le _) h2
  have e : (if cap = 0 then a else a.map (·.add (0 * 3))) = a := by
    split
    · rfl
    · cases a <;> simp [Addr.add]
  rw [e] at this
  simpa using this
theorem ncut_run (a : Option Addr) (n cap lo hi : Nat) (h1 : lo ≤ hi) (h2 : hi ≤ n) (h3 : n ≤ cap) : ∀ w : World, (Instr.slice 89 (.slice a n cap) (some (.int .i64 lo)) (some (.int .i64 hi)) none).run Tryz.prog w = .ok (.slice (if cap = lo then a else a.map (·.add (lo * 3))) (hi - lo) (cap - lo)) w := by
  intro w
  have hz : Tryz.prog.elem 89 = 93 := by kernel_rfl
  have hs : (sizeOf 93).run Tryz.prog w = .ok 3 w := by kernel_rfl
  rw [run_slice_lh w 89 a n cap (by rw [hz]; exact Tryz.underlying89) .i64 .i64 _ _ (by omega) (by omega) (by omega), hz, hs]
  simp only [Result.andThen, sliced, Int.toNat_natCast]
theorem ncut_run_l (a : Option Addr) (n cap lo : Nat) (h2 : lo ≤ n) (h3 : n ≤ cap) : ∀ w : World, (Instr.slice 89 (.slice a n cap) (some (.int .i64 lo)) none none).run Tryz.prog w = .ok (.slice (if cap = lo then a else a.map (·.add (lo * 3))) (n - lo) (cap - lo)) w := by
  intro w
  have hz : Tryz.prog.elem 89 = 93 := by kernel_rfl
  have hs : (sizeOf 93).run Tryz.prog w = .ok 3 w := by kernel_rfl
  rw [run_slice_l w 89 a n cap (by rw [hz]; exact Tryz.underlying89) .i64 _ (by omega) (by omega), hz, hs]
  simp only [Result.andThen, sliced, Int.toNat_natCast]

/-- The operands of e, as a slice of slices of nodes in a block from N on; the nodes themselves lie in w0. -/
def Kids (w0 w : World) (N : Nat) (v : Value) (e : List Nd) (b : Nat → Nat) (A : Nat) : Prop :=
  ∃ a cap, v = .slice a A cap ∧ A ≤ cap ∧ cap ≤ 9223372036854775807 ∧ (0 < A → ∃ B, a = some ⟨B, 0, none⟩ ∧ N ≤ B ∧ B < w.heap.size ∧ ∀ i, i < A → ∃ vi, w.cell? ⟨B, i, none⟩ = some vi ∧ Nodes w0 vi (kid e b i))
theorem Kids.below {w0 w w' : World} {N : Nat} {v : Value} {e : List Nd} {b : Nat → Nat} {A : Nat} (h : Kids w0 w N v e b A) (hb : Below w.heap.size w w') : Kids w0 w' N v e b A := by
  obtain ⟨a, cap, rfl, hl, hm, h⟩ := h
  refine ⟨a, cap, rfl, hl, hm, fun h0 => ?_⟩
  obtain ⟨B, rfl, hN, hB, hc⟩ := h h0
  refine ⟨B, rfl, hN, Nat.lt_of_lt_of_le hB hb.size, fun i hi => ?_⟩
  obtain ⟨vi, h1, h2⟩ := hc i hi
  exact ⟨vi, (hb.cell (p := ⟨B, i, none⟩) (World.block_lt_of_cell? _ _ h1)).trans h1, h2⟩

theorem info_nodes : (Tryz.prog.info? 89).map (fun i => (i.zero, i.size, i.bytes)) = some (some (.slice none 0 0), 1, 24) := by kernel_rfl

end Go.Proofs.YtefnijmgdcfhiaaGreatDoor

namespace Go.Proofs.YtefnijmgdcfhiaaGreatDoor
open Go.RowKit
set_option linter.unusedVariables false
set_option linter.unusedSimpArgs false

theorem from_beg {ns : List Nd} {k i : Nat} {r : Int} (hk : k ≤ ns.length) (hb : begP ns k i) (h : fromP (ns.take k) r) : r = i := by
  have hlen : (ns.take k).length = k := by simp; omega
  obtain ⟨b1, b2, b3⟩ := hb
  rcases h with ⟨i', rfl, h1, h2, h3⟩ | ⟨rfl, h1⟩
  · rw [hlen] at h1 h3
    have : i' = i := by
      rcases Nat.lt_trichotomy i' i with h | h | h
      · have := h3 i h (by omega); omega
      · exact h
      · have := b3 i' h (by omega); omega
    omega
  · have := h1 i (by rw [hlen]; omega)
    omega
theorem nhead_run (a : Option Addr) (n cap hi : Nat) (h2 : hi ≤ n) (h3 : n ≤ cap) : ∀ w : World, (Instr.slice 89 (.slice a n cap) none (some (.int .i64 (hi : Int))) none).run Tryz.prog w = .ok (.slice a hi cap) w := by
  intro w
  have hz : Tryz.prog.elem 89 = 93 := by kernel_rfl
  have hs : (sizeOf 93).run Tryz.prog w = .ok 3 w := by kernel_rfl
  rw [run_slice_h w 89 a n cap (by rw [hz]; exact Tryz.underlying89) .i64 _ (by omega) (by omega), hz, hs]
  simp only [Result.andThen, sliced, Int.toNat_natCast, Nat.sub_zero, Nat.zero_mul]
  have e : (if cap = 0 then a else a.map (·.add 0)) = a := by
    split
    · rfl
    · cases a <;> simp [Addr.add]
  rw [e]
/-- The operands from i on, in a row. -/
def KRow (w0 w : World) (N : Nat) (v : Value) (e : List Nd) (b : Nat → Nat) (A i : Nat) : Prop :=
  ∃ (B cap : Nat) (vs : List Value), v = .slice (some ⟨B, 0, none⟩) (A - i) cap ∧ A - i ≤ cap ∧ cap ≤ 9223372036854775807 ∧ N ≤ B ∧ B < w.heap.size ∧ vs.length = A - i ∧ ∀ j (h : j < vs.length), w.cell? ⟨B, j, none⟩ = some vs[j] ∧ Nodes w0 vs[j] (kid e b (i + j))
theorem KRow.below {w0 w w' : World} {N : Nat} {v : Value} {e : List Nd} {b : Nat → Nat} {A i : Nat} (h : KRow w0 w N v e b A i) (hb : Below w.heap.size w w') : KRow w0 w' N v e b A i := by
  obtain ⟨B, cap, vs, rfl, h1, h2, h3, h4, h5, h6⟩ := h
  refine ⟨B, cap, vs, rfl, h1, h2, h3, Nat.lt_of_lt_of_le h4 hb.size, h5, fun j hj => ⟨(hb.cell (p := ⟨B, j, none⟩) h4).trans (h6 j hj).1, (h6 j hj).2⟩⟩
theorem KRow.kids {w0 w : World} {N : Nat} {v : Value} {e : List Nd} {b : Nat → Nat} {A : Nat} (h : KRow w0 w N v e b A 0) : Kids w0 w N v e b A := by
  obtain ⟨B, cap, vs, rfl, h1, h2, h3, h4, h5, h6⟩ := h
  rw [Nat.sub_zero] at *
  refine ⟨_, cap, rfl, h1, h2, fun _ => ⟨B, rfl, h3, h4, fun i hi => ?_⟩⟩
  have := h6 i (by omega)
  rw [Nat.zero_add] at this
  exact ⟨_, this⟩
theorem nodes_one {w : World} {v : Value} {ns : List Nd} (h : Nodes w v ns) : v.oneCell' = true := by
  obtain ⟨a, cap, rfl, _⟩ := h
  rfl
theorem addr0 (g j : Nat) : (⟨g, 0, none⟩ : Addr).add j = ⟨g, j, none⟩ := by
  simp [Addr.add]
  try (intro h; omega)
/-- A row of one operand, and those behind it. -/
theorem KRow.cons {w0 w w' : World} {N : Nat} {v' u : Value} {vs : List Value} {e : List Nd} {b : Nat → Nat} {A i n : Nat} (hi : i < A) (hvl : vs.length = A - (i + 1)) (hvs : ∀ j (h : j < vs.length), Nodes w0 vs[j] (kid e b (i + 1 + j))) (hu : Nodes w0 u (kid e b i)) (hown : w'.ownsRow N 89 1 v' (1 + n) ([u] ++ vs)) (hn : n = A - (i + 1)) : KRow w0 w' N v' e b A i := by
  have hown0 := hown
  obtain ⟨hlen, h⟩ := hown
  rcases h with ⟨_, h0⟩ | ⟨g, cap, cur, rfl, hg, hh, hc1, hc2, hc3, hc4⟩
  · omega
  · refine ⟨g, cap, u :: vs, by rw [show 1 + n = A - i by omega], by omega, by simp only [maxLen] at hc2; omega, hg, (Array.getElem?_eq_some_iff.1 hh).1, by simp; omega, fun j hj => ?_⟩
    have hcell := hown0.cells (g := g) rfl j ((u :: vs)[j]) (by simp [List.getElem?_eq_getElem hj])
    rw [addr0] at hcell
    refine ⟨hcell, ?_⟩
    cases j with
    | zero => simpa using hu
    | succ j =>
      have := hvs j (by simpa using hj)
      simpa [Nat.add_comm, Nat.add_left_comm, Nat.add_assoc] using this

set_option maxRecDepth 20000 in
set_option maxHeartbeats 1000000 in
theorem kids_any (w0 : World) (v : Value) (e : List Nd) (A : Nat) (b : Nat → Nat) (w : World) (hl : e.length ≤ 1048576) (hc : Nodes w0 v e) (hB0 : Below w0.heap.size w0 w) (hb : Cut e A b) :
    Calls Tryz.prog 87 #[v] w fun r w' => ∃ v', r = .returned v' ∧ Kids w0 w' w.heap.size v' e b A ∧ Below w.heap.size w w' := by
  have HN : Hid (Nodes w0 v e) := hc
  have HB0 : Hid (Below w0.heap.size w0 w) := hB0
  have HB : Hid (Cut e A b) := hb
  obtain ⟨a, cap, rfl, hcl, hcm, -⟩ := hc
  have hpos := hb.len
  obtain ⟨m, hm⟩ : ∃ m, e.length = m + 1 := ⟨e.length - 1, by omega⟩
  have hA6 := hb.arA
  have hA6' : (A : Int) ≤ 6 := by omega
  obtain ⟨i0, hi, hz0, hz1, hz2⟩ := info_parts info_nodes
  have HR : Hid (∀ W : World, Below w.heap.size w W → Calls Tryz.prog 86 #[.slice a e.length cap] W fun r w' => r = .returned (.agg #[.int .i64 (rootN e).kind, .int .i64 (rootN e).val, .string (rootN e).name]) ∧ Below W.heap.size W w') := fun W hW => by
    have := root_any _ e W hpos hl (HN.out.below (HB0.out.trans (hW.mono HB0.out.size)))
    rw [← rootN_eq e hpos] at this
    exact this
  have HA : Hid (∀ W : World, Calls Tryz.prog 105 #[.agg #[.int .i64 (rootN e).kind, .int .i64 (rootN e).val, .string (rootN e).name]] W fun r w' => r = .returned (.int .i64 A) ∧ Below W.heap.size W w') := fun W => by
    have := arity_nd (rootN e) W
    rw [hb.ar] at this
    exact this
  generalize (rootN e).kind = rk at HR HA
  generalize (rootN e).val = rv at HR HA
  generalize (rootN e).name = rn at HR HA
  have HM : Hid (e.length = m + 1) := hm
  have e1 : ((m + 1 : Nat) : Int) - 1 = (m : Int) := by omega
  rw [hm] at hl hcl hpos HN HR ⊢
  clear hb hB0 hm
  have hnr := nhead_run a (m + 1) cap m (by omega) hcl
  go_enter Tryz.func87, Tryz.ntmps87
  go_wp2_with fail
  refine (HR.out _ ((Below.refl _ _).alloc (Nat.le_refl _) _)).mono ?_
  rintro x w1 ⟨rfl, hb1⟩
  go_wp2_with fail
  refine (HA.out w1).mono ?_
  rintro x w2 ⟨rfl, hb2⟩
  have hbW : Below w.heap.size w w2 := (((Below.refl _ _).alloc (Nat.le_refl _) _).trans (hb1.mono (by simp))).trans (hb2.mono (by have := hb1.size; simp at this; omega))
  have hs1 := hb1.size
  have hs2 := hb2.size
  simp only [World.size_alloc] at hs1
  have HK0 : Hid (KRow w0 w2 w.heap.size (.slice (some ⟨w.heap.size, 0, none⟩) 0 0) e b A A) := ⟨w.heap.size, 0, [], by rw [Nat.sub_self], by omega, by omega, Nat.le_refl _, by omega, by simp, fun j hj => absurd hj (by simp)⟩
  have HBW : Hid (Below w.heap.size w w2) := hbW
  clear hb1 hb2 hbW hs1 hs2 hnr
  go_wp2_with fail
  go_loopw [3, 4, 5] (fun rs ot ix wr => ∃ (k : Nat), k ≤ A ∧ ix = .int .i64 (k : Int) ∧ rs = .slice a (b k) cap ∧ KRow w0 wr w.heap.size ot e b A k ∧ Below w.heap.size w wr) (fun _ _ ix _ => (intOf ix).toNat)
  case atStart => exact ⟨A, Nat.le_refl _, rfl, by rw [HB.out.last, HM.out]; rfl, HK0.out, HBW.out⟩
  case round =>
    obtain ⟨k, hk, rfl, rfl, hK, hB⟩ := hrel
    have HK : Hid _ := hK
    rcases Nat.eq_zero_or_pos k with rfl | hk0
    · have HKs : Hid (Kids w0 wr w.heap.size u4 e b A) := hK.kids
      clear hK
      go_wp2_with fail
      exact bodyPost_ret (v := u4) (by simp [results, Tryz.results87, go_sem]) rfl ⟨_, rfl, HKs.out, hB⟩
    · obtain ⟨i, rfl⟩ : ∃ i, k = i + 1 := ⟨k - 1, by omega⟩
      have hbe := (HB.out.beg i (by omega)).1
      have hble := HB.out.le' (i + 1) (by omega)
      rw [HM.out] at hble
      have HC : Hid (Calls Tryz.prog 106 #[.slice a (b (i + 1)) cap] wr fun x w' => x = .returned (.int .i64 (b i)) ∧ Below wr.heap.size wr w') := by
        have hNh : Nodes wr (.slice a (b (i + 1)) cap) (e.take (b (i + 1))) := (Nodes.head (by rw [HM.out]; exact HN.out.below (HB0.out.trans (hB.mono HB0.out.size))) (b (i + 1)) (by rw [HM.out]; omega))
        refine (from_any _ (e.take (b (i + 1))) wr (by simp; omega) (fun n hn => HB.out.good n (List.mem_of_mem_take hn)) hNh).mono ?_
        rintro x w' ⟨r, hf, -, -, rfl, hb⟩
        rw [from_beg (by rw [HM.out]; omega) (HB.out.beg i (by omega)) hf]
        exact ⟨rfl, hb⟩
      have hcut := ncut_run_l a (b (i + 1)) cap (b i) (by omega) (by omega)
      have hhd := nhead_run a (b (i + 1)) cap (b i) (by omega) (by omega)
      have HNC : Hid (Nodes w0 (.slice (if cap = b i then a else a.map (·.add (b i * 3))) (b (i + 1) - b i) (cap - b i)) (kid e b i)) := Nodes.cut (by rw [HM.out]; exact HN.out) (b i) (b (i + 1)) (by omega) (by rw [HM.out]; omega)
      generalize (if cap = b i then a else a.map (·.add (b i * 3))) = ua at hcut HNC
      generalize b (i + 1) - b i = un at hcut HNC
      generalize cap - b i = uc at hcut HNC
      obtain ⟨B, kc, vs, rfl, k1, k2, k3, k4, k5, k6⟩ := hK
      have HV : Hid (∀ j (h : j < vs.length), Nodes w0 vs[j] (kid e b (i + 1 + j))) := fun j hj => (k6 j hj).2
      have HVC : Hid (∀ j (h : j < vs.length), wr.cell? ⟨B, j, none⟩ = some vs[j]) := fun j hj => (k6 j hj).1
      clear k6 HK
      generalize hbi : b i = bi at *
      generalize hbi1 : b (i + 1) = bi1 at *
      go_wp2_with fail
      refine HC.out.mono ?_
      rintro x w3 ⟨rfl, hb3⟩
      have hB3 := hB.trans (hb3.mono hB.size)
      have HNews : Hid (∀ o j u, vs[j]? = some u → (w3.alloc o).cell? ((⟨B, 0, none⟩ : Addr).add j) = some u) := fun o j u hj => by
        obtain ⟨hlt, rfl⟩ := List.getElem?_eq_some_iff.1 hj
        rw [addr0, ((hb3.alloc hb3.size o)).cell (p := ⟨B, j, none⟩) k4]
        exact HVC.out j hlt
      have HOne : Hid (∀ u ∈ vs, u.oneCell' = true) := fun u hu => by
        obtain ⟨j, hj, rfl⟩ := List.mem_iff_getElem.1 hu
        exact nodes_one (HV.out j hj)
      have hs3 := hB3.size
      have hs3' := hb3.size
      go_wp2_with (at_builtin; refine wpList_append_own _ rfl _ _ 148 rfl w.heap.size 89 i0 (.slice none 0 0) 1 24 Tryz.underlying148 hi hz0 hz1 hz2 rfl (by decide) _ 1 [.slice ua un uc] rfl (World.ownsRow_lit w3 #[.slice ua un uc] 1 hs3 (by decide) rfl) ⟨B, 0, none⟩ (A - (i + 1)) kc vs rfl (by rw [k5, Nat.mul_one]) (HNews.out _) HOne.out (by unfold maxLen; omega) (by omega) (by simp; omega) ?_)
      intro v' w4 hown hgrow _
      have hB4 : Below w.heap.size w w4 := (hB3.alloc hs3 _).grown hgrow (by simp; omega) (fun k hk => by simp only [Value.ownBlock, Option.some.injEq] at hk; omega)
      have HKc : Hid (KRow w0 w4 w.heap.size v' e b A i) := KRow.cons (w := w) (by omega) k5 HV.out HNC.out hown rfl
      clear hown hgrow
      go_wp2_with fail
      go_roundw
      case rel => exact ⟨i, by omega, by go_num, by rw [hbi], HKc.out, hB4⟩
      case measure => simp [intOf]

end Go.Proofs.YtefnijmgdcfhiaaGreatDoor
