import Derived.Test.YtlamjfhhefcohaaGreatDoorM01
import Derived.Maps.OwnSet
import Derived.Lib.SlKeysI
namespace Go.Proofs.YtlamjfhhefcohaaGreatDoor
set_option linter.unusedVariables false
set_option linter.unusedSimpArgs false
set_option maxRecDepth 100000
set_option maxHeartbeats 16000000
section
open Go.Maps
def fnum (fs : List Fu) (s : ByteArray) : Option Nat := fs.findIdx? (fun f => decide (f.name = s))
theorem fnum_snoc (fs : List Fu) (f : Fu) (s : ByteArray) : fnum (fs ++ [f]) s = (fnum fs s).or (if f.name = s then some fs.length else none) := by
 unfold fnum
 rw [List.findIdx?_append]
 by_cases h : f.name = s
 ·simp [List.findIdx?_cons, h]
 ·simp [List.findIdx?_cons, h]
abbrev kS (s : ByteArray) : Lit := .string s.data.toList
theorem kS_ne {s t : ByteArray} (h : s ≠ t) : kS s ≠ kS t := by
 intro e
 injection e with e
 exact h (by cases s; cases t; simp only at e; congr 1; exact Array.ext' e)
structure NumIs (D : DataW Unit) (fs : List Fu) : Prop where
 map : IsMap D
 has : ∀ s, Maps.has D (kS s) = (fnum fs s).isSome
 val : ∀ s i, fnum fs s = some i → D.atKey (kS s) (.lit (.int .i64 0)) = .lit (.int .i64 (i : Int))
theorem NumIs.nil : NumIs (.map []) [] := ⟨isMap_empty, fun s => rfl, fun s i h => by simp [fnum] at h⟩
theorem NumIs.old {D : DataW Unit} {fs : List Fu} (h : NumIs D fs) {f : Fu} (hh : Maps.has D (kS f.name) = true) : NumIs D (fs ++ [f]) := by
 rw [h.has] at hh
 have key : ∀ s, fnum (fs ++ [f]) s = fnum fs s := fun s => by
  rw [fnum_snoc]
  cases e : fnum fs s with
  | some i => rfl
  | none =>
   by_cases hs : f.name = s
   ·rw [← hs] at e; rw [e] at hh; cases hh
   ·simp [hs]
 exact ⟨h.map, fun s => by rw [key]; exact h.has s, fun s i hi => by rw [key] at hi; exact h.val s i hi⟩
theorem NumIs.new {D : DataW Unit} {fs : List Fu} (h : NumIs D fs) {f : Fu} (hh : Maps.has D (kS f.name) = false) : NumIs (D.put (kS f.name) (.lit (.int .i64 (fs.length : Int)))) (fs ++ [f]) := by
 rw [h.has] at hh
 have hn : fnum fs f.name = none := by cases e : fnum fs f.name <;> simp [e] at hh ⊢
 refine ⟨h.map.put _ _, fun s => ?_, fun s i hi => ?_⟩
 ·rw [fnum_snoc]
  by_cases hs : f.name = s
  ·subst hs
   rw [has_put_same (k := kS f.name) h.map trivial, hn]
   simp
  ·rw [has_put_other (kS_ne (Ne.symm hs)), h.has s]
   simp [hs]
 ·rw [fnum_snoc] at hi
  by_cases hs : f.name = s
  ·subst hs
   rw [hn] at hi
   simp at hi
   subst hi
   rw [atKey_put_same (k := kS f.name) h.map trivial]
  ·rw [atKey_put_other (kS_ne (Ne.symm hs))]
   simp [hs] at hi
   exact h.val s i hi
structure KeysIs (D : DataW Unit) (L : List Nat) : Prop where
 map : IsMap D
 has : ∀ a : Int, Maps.has D (.int .i64 a) = true ↔ ∃ g ∈ L, (g : Int) = a
theorem KeysIs.nil : KeysIs (.map []) [] := ⟨isMap_empty, fun a => by simp [Maps.has]⟩
theorem KeysIs.put {D : DataW Unit} {L : List Nat} (h : KeysIs D L) (g : Nat) (d : DataW Unit) : KeysIs (D.put (.int .i64 (g : Int)) d) (L ++ [g]) := by
 refine ⟨h.map.put _ _, fun a => ?_⟩
 by_cases e : a = (g : Int)
 ·subst e
  rw [has_put_same (k := .int .i64 (g : Int)) h.map trivial]
  simp
 ·rw [has_put_other (by intro h; injection h with _ h; exact e h), h.has a]
  constructor
  ·rintro ⟨x, hx, rfl⟩; exact ⟨x, by simp [hx], rfl⟩
  ·rintro ⟨x, hx, rfl⟩
   rcases List.mem_append.1 hx with hx | hx
   ·exact ⟨x, hx, rfl⟩
   ·simp at hx; subst hx; exact absurd rfl e
end
end Go.Proofs.YtlamjfhhefcohaaGreatDoor
