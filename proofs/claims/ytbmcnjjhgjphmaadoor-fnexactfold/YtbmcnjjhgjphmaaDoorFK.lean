import Derived.Test.YtbmcnjjhgjphmaaDoorFH
import Derived.Test.YtbmcnjjhgjphmaaDoorFJ
namespace Go.Proofs.YtbmcnjjhgjphmaaDoor
open Go.RowKit
set_option linter.unusedVariables false
set_option linter.unusedSimpArgs false

/-- What stands on the stack: nodes, their fold, the value. -/
abbrev Ent := List Nd × List Nd × Value
def vsL (L : List Ent) (i : Nat) : Value := (L.getD i ([], [], .nilIface)).2.2
def fsL (L : List Ent) (i : Nat) : List Nd := (L.getD i ([], [], .nilIface)).2.1
structure RI (w wr : World) (e : List Nd) (k : Nat) (v : Value) (T : List Ent) (S : Nat → Prop) : Prop where
  flat : (T.map (·.1)).flatten = e.take k
  each : ∀ t ∈ T, oneB t.1 = true ∧ Fd apN t.1 t.2.1 ∧ Tv wr S t.2.2 t.2.1
  row : VRow w.heap.size wr v (T.map (·.2.2))
  sep : ∀ B, S B → w.heap.size ≤ B ∧ B < wr.heap.size ∧ v.ownBlock ≠ some B
  bel : Below w.heap.size w wr
theorem RI.below {w wr w' : World} {e : List Nd} {k : Nat} {v : Value} {T : List Ent} {S : Nat → Prop} (h : RI w wr e k v T S) (hb : Below wr.heap.size wr w') : RI w w' e k v T S := by
  refine ⟨h.flat, fun t ht => ⟨(h.each t ht).1, (h.each t ht).2.1, (h.each t ht).2.2.bel (fun B hB => (h.sep B hB).2.1) hb⟩, ownB h.row hb, fun B hB => ?_, h.bel.trans (hb.mono h.bel.size)⟩
  have := h.sep B hB
  exact ⟨this.1, Nat.lt_of_lt_of_le this.2.1 hb.size, this.2.2⟩
theorem RI.one {w wr : World} {e : List Nd} {k : Nat} {v : Value} {T : List Ent} {S : Nat → Prop} (h : RI w wr e k v T S) : ∀ u ∈ T.map (·.2.2), u.oneCell' = true := by
  intro u hu
  simp only [List.mem_map] at hu
  obtain ⟨t, ht, rfl⟩ := hu
  obtain ⟨a, b, hab⟩ := (h.each t ht).2.2.isI
  rw [hab]
  rfl
theorem RI.segs {w wr : World} {e : List Nd} {k : Nat} {v : Value} {T : List Ent} {S : Nat → Prop} (h : RI w wr e k v T S) : ∀ s ∈ T.map (·.1), oneB s = true := by
  intro s hs
  simp only [List.mem_map] at hs
  obtain ⟨t, ht, rfl⟩ := hs
  exact (h.each t ht).1
def addS (S : Nat → Prop) (u : Value) (B : Nat) : Prop := S B ∨ u.ownBlock = some B
theorem RI.kids {w wr w3 : World} {e : List Nd} {k : Nat} {v : Value} {T : List Ent} {S : Nat → Prop} (h : RI w wr e k v T S) (lo A : Nat) (hlo : lo + A = T.length) (hb : Below wr.heap.size wr w3) {u : Value} (hu : VRow wr.heap.size w3 u ((T.drop lo).map (·.2.2))) :
    Args w3 (addS S u) u A (vsL (T.drop lo)) ∧ (∀ i, i < A → Tv w3 (addS S u) (vsL (T.drop lo) i) (fsL (T.drop lo) i)) ∧ (∀ i, i < A → ∀ x, isN (fsL (T.drop lo) i) = some x → inB x) ∧ ∀ B, addS S u B → B < w3.heap.size := by
  have hlen : (T.drop lo).length = A := by simp; omega
  have hget : ∀ i (hi : i < A), (T.drop lo).getD i ([], [], .nilIface) = (T.drop lo)[i]'(by omega) ∧ (T.drop lo)[i]'(by omega) ∈ T := by
    intro i hi
    refine ⟨by simp [List.getD, List.getElem?_eq_getElem (show i < (T.drop lo).length by omega)], List.mem_of_mem_drop (List.getElem_mem _)⟩
  refine ⟨?_, fun i hi => ?_, fun i hi x hx => ?_, fun B hB => ?_⟩
  · obtain ⟨a, cap, rfl, h1, h2, h3, h4⟩ := hu.form
    simp only [List.length_map, hlen] at h1 ⊢
    refine ⟨a, cap, rfl, h1, h2, fun h0 => ?_⟩
    cases a with
    | none =>
      have := h3 rfl
      have h5 := congrArg List.length this
      simp only [List.length_map, List.length_nil] at h5
      omega
    | some ad =>
      obtain ⟨g, rfl, hg1, hg2, hc⟩ := h4 ad rfl
      refine ⟨g, rfl, .inr rfl, fun i hi => ?_⟩
      refine hc i _ ?_
      rw [List.getElem?_map, List.getElem?_eq_getElem (show i < (T.drop lo).length by omega), Option.map_some, vsL, (hget i hi).1]
  · have := (h.each _ (hget i hi).2).2.2
    rw [vsL, fsL, (hget i hi).1]
    exact this.keep (fun B hB => .inl hB) (fun B hB => hb.block B (h.sep B hB).2.1)
  · have := (h.each _ (hget i hi).2).2.1
    rw [fsL, (hget i hi).1] at hx
    exact this.bd hx
  · rcases hB with hB | hB
    · exact Nat.lt_of_lt_of_le (h.sep B hB).2.1 hb.size
    · exact (hu.own B hB).2
theorem RI.step {w wr w3 w4 w5 w6 : World} {e : List Nd} {k : Nat} {v v' u u' : Value} {T : List Ent} {S : Nat → Prop} (h : RI w wr e k v T S) (hk : k < e.length) (lo A : Nat) (hlo : lo + A = T.length) (hn : nodeB e[k] = true) (hA : arity e[k] = A)
    (hb : Below wr.heap.size wr w3) (hu : VRow wr.heap.size w3 u ((T.drop lo).map (·.2.2))) (hb4 : Below w3.heap.size w3 w4) (hT : Tv w4 (addS S u) u' (fold1 apN e[k] A (fsL (T.drop lo)))) (hb5 : Below w4.heap.size w4 w5)
    (hr : VRow w.heap.size w6 v' ((T.take lo).map (·.2.2) ++ [u'])) (hg : w5.grownBy w6 v.ownBlock) (hf : ∀ g, v'.ownBlock = some g → v.ownBlock = some g ∨ w5.heap.size ≤ g) :
    ∃ T' S', RI w w6 e (k + 1) v' T' S' := by
  have hvo : ∀ g, v.ownBlock = some g → w.heap.size ≤ g ∧ g < wr.heap.size := fun g hg => h.row.own g hg
  have hb5' : Below wr.heap.size wr w5 := (hb.trans (hb4.mono hb.size)).trans (hb5.mono (Nat.le_trans hb.size hb4.size))
  have hSlt : ∀ B, addS S u B → B < w3.heap.size ∧ w.heap.size ≤ B ∧ v.ownBlock ≠ some B := by
    intro B hB
    rcases hB with hB | hB
    · exact ⟨Nat.lt_of_lt_of_le (h.sep B hB).2.1 hb.size, (h.sep B hB).1, (h.sep B hB).2.2⟩
    · have h1 := hu.own B hB
      have h2 := h.bel.size
      refine ⟨h1.2, by omega, fun hh => ?_⟩
      have := hvo B hh
      omega
  have hs5 : w3.heap.size ≤ w5.heap.size := Nat.le_trans hb4.size hb5.size
  have hkeep : ∀ B, addS S u B → w6.heap[B]? = w5.heap[B]? := fun B hB => hg.block B (by have := (hSlt B hB).1; omega) (fun hh => (hSlt B hB).2.2 hh.symm)
  refine ⟨T.take lo ++ [(((T.drop lo).map (·.1)).flatten ++ [e[k]], fold1 apN e[k] A (fsL (T.drop lo)), u')], addS S u, ?_, ?_, ?_, ?_, ?_⟩
  · simp only [List.map_append, List.map_cons, List.map_nil, List.flatten_append, List.flatten_cons, List.flatten_nil, List.append_nil]
    rw [← List.append_assoc, ← List.flatten_append, ← List.map_append, List.take_append_drop, h.flat, List.take_succ_eq_append_getElem hk]
  · intro t ht
    rw [List.mem_append] at ht
    rcases ht with ht | ht
    · have := h.each t (List.mem_of_mem_take ht)
      refine ⟨this.1, this.2.1, this.2.2.keep (fun B hB => .inl hB) (fun B hB => ?_)⟩
      rw [hkeep B (.inl hB)]
      exact hb5'.block B (h.sep B hB).2.1
    · simp only [List.mem_singleton] at ht
      subst ht
      have hsegs : ∀ s ∈ (T.drop lo).map (·.1), oneB s = true := by
        intro s hs
        simp only [List.mem_map] at hs
        obtain ⟨t, ht, rfl⟩ := hs
        exact (h.each t (List.mem_of_mem_drop ht)).1
      have hlen : ((T.drop lo).map (·.1)).length = A := by simp; omega
      refine ⟨push_one _ _ hn (by rw [hlen, hA]) hsegs, ?_, hT.keep (fun _ hB => hB) (fun B hB => ?_)⟩
      · have := push_fd apN ((T.drop lo).map (·.1)) e[k] hn (by rw [hlen, hA]) hsegs (fsL (T.drop lo)) (fun i hi => by
          have hi' : i < (T.drop lo).length := by simpa using hi
          rw [fsL]
          simp only [List.getElem_map, List.getD, List.getElem?_eq_getElem hi', Option.getD_some]
          exact (h.each _ (List.mem_of_mem_drop (List.getElem_mem _))).2.1)
        rw [hlen] at this
        exact this
      · rw [hkeep B hB]
        exact hb5.block B (by have := (hSlt B hB).1; have := hb4.size; omega)
  · have e1 : (T.take lo ++ [(((T.drop lo).map (·.1)).flatten ++ [e[k]], fold1 apN e[k] A (fsL (T.drop lo)), u')]).map (·.2.2) = (T.take lo).map (·.2.2) ++ [u'] := by simp
    rw [e1]
    exact hr
  · intro B hB
    have h1 := hSlt B hB
    refine ⟨h1.2.1, by have := hg.size; omega, fun hh => ?_⟩
    rcases hf B hh with h2 | h2
    · exact h1.2.2 h2
    · omega
  · have hb0 : Below w.heap.size w w5 := h.bel.trans (hb5'.mono h.bel.size)
    exact hb0.grown hg hb0.size (fun g hg => (hvo g hg).1)
/-- At the end one value stands. -/
theorem RI.fin {w wr : World} {e r : List Nd} {v : Value} {T : List Ent} {S : Nat → Prop} (h : RI w wr e e.length v T S) (he : oneB e = true) (hr : Fd apN e r) : ∃ u g, (∃ cap, v = .slice (some ⟨g, 0, none⟩) 1 cap) ∧ wr.cell? ⟨g, 0, none⟩ = some u ∧ Tv wr S u r := by
  have h1 : T.map (·.1) = [e] := segs_end he h.segs (by rw [h.flat, List.take_length])
  have hl : T.length = 1 := by have := congrArg List.length h1; simpa using this
  obtain ⟨t, rfl⟩ := List.length_eq_one_iff.1 hl
  simp only [List.map_cons, List.map_nil, List.cons.injEq, and_true] at h1
  have h2 := h.each t (by simp)
  rw [h1] at h2
  have h3 := h2.2.1.one hr
  rw [h3] at h2
  obtain ⟨a, cap, hv, _, _, h5, h6⟩ := h.row.form
  cases a with
  | none => have := h5 rfl; simp at this
  | some ad =>
    obtain ⟨g, rfl, _, _, h7⟩ := h6 ad rfl
    exact ⟨t.2.2, g, ⟨cap, hv⟩, h7 0 _ (by simp), h2.2.2⟩

end Go.Proofs.YtbmcnjjhgjphmaaDoor
