import Derived.Test.YtlamjfhhefcohaaGreatDoorM01
import Derived.Maps.OwnSet
import Derived.Lib.SlKeysI
namespace Go.Proofs.YtlamjfhhefcohaaGreatDoor
set_option linter.unusedVariables false
set_option linter.unusedSimpArgs false
set_option maxRecDepth 100000
set_option maxHeartbeats 16000000
section
open Go.Maps
def fnum (fs : List Fu) (s : ByteArray) : Option Nat := fs.findIdx? (fun f => decide (f.name = s))
theorem fnum_snoc (fs : List Fu) (f : Fu) (s : ByteArray) : fnum (fs ++ [f]) s = (fnum fs s).or (if f.name = s then some fs.length else none) := by
 unfold fnum
 rw [List.findIdx?_append]
 by_cases h : f.name = s
 ·simp [List.findIdx?_cons, h]
 ·simp [List.findIdx?_cons, h]
theorem fnum_at {fs : List Fu} {s : ByteArray} {k : Nat} (hk : k < fs.length) (h : ∀ j (hj : j < k), fs[j].name ≠ s) (hs : fs[k].name = s) : fnum fs s = some k := by
 unfold fnum
 rw [List.findIdx?_eq_some_iff_getElem]
 exact ⟨hk, by simpa using hs, fun j hj => by simpa using h j hj⟩
theorem fnum_no {fs : List Fu} {s : ByteArray} (h : ∀ j (hj : j < fs.length), fs[j].name ≠ s) : fnum fs s = none := by
 unfold fnum
 rw [List.findIdx?_eq_none_iff]
 intro f hf
 obtain ⟨j, hj, rfl⟩ := List.getElem_of_mem hf
 simpa using h j hj
theorem fnum_lt {fs : List Fu} {s : ByteArray} {i : Nat} (h : fnum fs s = some i) : i < fs.length := by
 unfold fnum at h
 rw [List.findIdx?_eq_some_iff_getElem] at h
 exact h.1
def callN (fs : List Fu) (ns : List Nd) : List Nat := ns.filterMap (fun n => if n.kind = 4 then fnum fs n.name else none)
def nodesOf (ss : List St) : List Nd := ss.flatMap (fun s => s.e ++ s.f)
def callsL (fs : List Fu) (ss : List St) : List Nat := (List.range fs.length).filter (fun g => decide (g ∈ callN fs (nodesOf ss)))
theorem callN_snoc_no {fs : List Fu} {ns : List Nd} {n : Nd} (h : n.kind = 4 → fnum fs n.name = none) : callN fs (ns ++ [n]) = callN fs ns := by
 unfold callN
 rw [List.filterMap_append]
 by_cases h4 : n.kind = 4
 ·simp [h4, h h4]
 ·simp [h4]
theorem callN_snoc_yes {fs : List Fu} {ns : List Nd} {n : Nd} {g : Nat} (h : n.kind = 4) (hg : fnum fs n.name = some g) : callN fs (ns ++ [n]) = callN fs ns ++ [g] := by
 unfold callN
 rw [List.filterMap_append]
 simp [h, hg]
theorem callN_lt {fs : List Fu} {ns : List Nd} {g : Nat} (h : g ∈ callN fs ns) : g < fs.length := by
 unfold callN at h
 obtain ⟨n, _, hn⟩ := List.mem_filterMap.1 h
 split at hn
 ·exact fnum_lt hn
 ·cases hn
theorem callN_len (fs : List Fu) (ns : List Nd) : (callN fs ns).length ≤ ns.length := List.length_filterMap_le _ _
theorem nodesOf_snoc (ss : List St) (s : St) : nodesOf (ss ++ [s]) = nodesOf ss ++ (s.e ++ s.f) := by simp [nodesOf]
theorem callsL_len (fs : List Fu) (ss : List St) : (callsL fs ss).length ≤ fs.length := by
 have := List.length_filter_le (fun g => decide (g ∈ callN fs (nodesOf ss))) (List.range fs.length)
 simpa [callsL] using this
abbrev kS (s : ByteArray) : Lit := .string s.data.toList
theorem kS_ne {s t : ByteArray} (h : s ≠ t) : kS s ≠ kS t := by
 intro e
 injection e with e
 exact h (by cases s; cases t; simp only at e; congr 1; exact Array.ext' e)
structure NumIs (D : DataW Unit) (fs : List Fu) : Prop where
 map : IsMap D
 has : ∀ s, Maps.has D (kS s) = (fnum fs s).isSome
 val : ∀ s i, fnum fs s = some i → D.atKey (kS s) (.lit (.int .i64 0)) = .lit (.int .i64 (i : Int))
theorem NumIs.nil : NumIs (.map []) [] := ⟨isMap_empty, fun s => rfl, fun s i h => by simp [fnum] at h⟩
theorem NumIs.old {D : DataW Unit} {fs : List Fu} (h : NumIs D fs) {f : Fu} (hh : Maps.has D (kS f.name) = true) : NumIs D (fs ++ [f]) := by
 rw [h.has] at hh
 have key : ∀ s, fnum (fs ++ [f]) s = fnum fs s := fun s => by
  rw [fnum_snoc]
  cases e : fnum fs s with
  | some i => rfl
  | none =>
   by_cases hs : f.name = s
   ·rw [← hs] at e; rw [e] at hh; cases hh
   ·simp [hs]
 exact ⟨h.map, fun s => by rw [key]; exact h.has s, fun s i hi => by rw [key] at hi; exact h.val s i hi⟩
theorem NumIs.new {D : DataW Unit} {fs : List Fu} (h : NumIs D fs) {f : Fu} (hh : Maps.has D (kS f.name) = false) : NumIs (D.put (kS f.name) (.lit (.int .i64 (fs.length : Int)))) (fs ++ [f]) := by
 rw [h.has] at hh
 have hn : fnum fs f.name = none := by cases e : fnum fs f.name <;> simp [e] at hh ⊢
 refine ⟨h.map.put _ _, fun s => ?_, fun s i hi => ?_⟩
 ·rw [fnum_snoc]
  by_cases hs : f.name = s
  ·subst hs
   rw [has_put_same (k := kS f.name) h.map trivial, hn]
   simp
  ·rw [has_put_other (kS_ne (Ne.symm hs)), h.has s]
   simp [hs]
 ·rw [fnum_snoc] at hi
  by_cases hs : f.name = s
  ·subst hs
   rw [hn] at hi
   simp at hi
   subst hi
   rw [atKey_put_same (k := kS f.name) h.map trivial]
  ·rw [atKey_put_other (kS_ne (Ne.symm hs))]
   simp [hs] at hi
   exact h.val s i hi
structure KeysIs (D : DataW Unit) (L : List Nat) : Prop where
 map : IsMap D
 has : ∀ a : Int, Maps.has D (.int .i64 a) = true ↔ ∃ g ∈ L, (g : Int) = a
theorem KeysIs.nil : KeysIs (.map []) [] := ⟨isMap_empty, fun a => by simp [Maps.has]⟩
theorem KeysIs.put {D : DataW Unit} {L : List Nat} (h : KeysIs D L) (g : Nat) (d : DataW Unit) : KeysIs (D.put (.int .i64 (g : Int)) d) (L ++ [g]) := by
 refine ⟨h.map.put _ _, fun a => ?_⟩
 by_cases e : a = (g : Int)
 ·subst e
  rw [has_put_same (k := .int .i64 (g : Int)) h.map trivial]
  simp
 ·rw [has_put_other (by intro h; injection h with _ h; exact e h), h.has a]
  constructor
  ·rintro ⟨x, hx, rfl⟩; exact ⟨x, by simp [hx], rfl⟩
  ·rintro ⟨x, hx, rfl⟩
   rcases List.mem_append.1 hx with hx | hx
   ·exact ⟨x, hx, rfl⟩
   ·simp at hx; subst hx; exact absurd rfl e
theorem sorted_keys {P : Program} {k : TypeId} {R : Value → Option (DataW Unit × List MemPlace)} {w : World} {b n : Nat} {D : DataW Unit} {fs : List Fu} {ss : List St} {zs : List Int} (hown : w.ownsMap P k R b n D) (hk : P.underlying k = some (.int .i64)) (hK : KeysIs D (callN fs (nodesOf ss))) (hp : zs.Perm (intKeys D)) :
  zs.mergeSort leI = (callsL fs ss).map (fun g : Nat => (g : Int)) := by
 have hs : ((callsL fs ss).map (fun g : Nat => (g : Int))).Pairwise (fun a b => a < b) := by
  refine List.pairwise_map.2 ?_
  have := (List.pairwise_lt_range (n := fs.length)).filter (fun g => decide (g ∈ callN fs (nodesOf ss)))
  exact this.imp (fun h => by omega)
 have hc : ((callsL fs ss).map (fun g : Nat => (g : Int))).Perm (intKeys D) := by
  refine CollectedI.perm (left := fun _ => false) ⟨hs.imp (fun h => by omega), fun x => ?_⟩ hown (int_keyed hk) hk (fun _ => rfl)
  rw [hK.has x]
  simp only [and_true, List.mem_map, callsL, List.mem_filter, List.mem_range, decide_eq_true_eq]
  constructor
  ·rintro ⟨g, ⟨_, hg⟩, rfl⟩; exact ⟨g, hg, rfl⟩
  ·rintro ⟨g, hg, rfl⟩; exact ⟨g, ⟨callN_lt hg, hg⟩, rfl⟩
 rw [mergeSort_of_perm_i (hp.trans hc.symm)]
 exact List.mergeSort_of_pairwise (hs.imp (fun h => by simp only [leI, decide_eq_true_eq]; omega))
end
end Go.Proofs.YtlamjfhhefcohaaGreatDoor
