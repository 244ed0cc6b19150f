import Derived.Test.YtolkpkklinoegaaDoorM36
import Derived.Test.YtolkpkklinoegaaDoorM49
import Derived.Test.YtolkpkklinoegaaDoorM53
import Derived.Test.YtolkpkklinoegaaDoorM37
set_option linter.unusedSectionVars false
variable [Inhabited Go.Proofs.YtolkpkklinoegaaDoor.Pick]
namespace Go.Proofs.YtolkpkklinoegaaDoor
set_option linter.unusedVariables false
set_option linter.unusedSimpArgs false
set_option maxRecDepth 100000
set_option maxHeartbeats 16000000
section
open Go.RowKit
structure OkRun (t : Tr) (i fr : List Int) (F : Int) : Prop where
 ck : (checkE t).1 = 0
 il : i.length ≤ 1000
 iw : i.all inBb = true
 fu : 0 ≤ F ∧ F ≤ 100000
 fl : fr.length = t.funcs.length
 fb : fr.all frB = true
theorem evalG_bad (t : Tr) (vg vf vI vFr : Value) (i fr : List Int) (F : Int) (w : World) (hs : smallT t) (hw : wfT t) (hg : Globs w vg t.globals) (hf : Funcs w vf t.funcs) (hI : InN w vI i) (hFr : InN w vFr fr) (hil : i.length ≤ 1048576) (hfl : fr.length ≤ 1048576) (hno : ¬ OkRun t i fr F) :
  Calls Tryd.prog 9 #[.agg #[vg, vf], vI, .int .i64 F, vFr] w fun e w' => e = .returned zeroE ∧ Below w.heap.size w w' := by
 have hck : ∀ X, Below w.heap.size w X → Calls Tryd.prog 21 #[.agg #[vg, vf]] X fun e w' => (∃ x y, e = .returned (.agg #[.int .i64 (checkE t).1, .int .i64 x, .int .i64 y])) ∧ Below X.heap.size X w' := fun X hX => (checkCG_any l3block t vg vf X hs hw (hg.below hX) (hf.below hX)).mono fun e w' h => ⟨⟨_, _, h.1⟩, h.2⟩
 by_cases h1 : (checkE t).1 = 0
 ·by_cases h2 : 1000 < i.length
  ·exact evalG_no t vg vf vI vFr i fr F w hck hg hf hI hFr hil hfl hs.2.1 (.inr (.inl h2))
  ·cases h3 : i.all inBb with
   | false => exact evalG_no t vg vf vI vFr i fr F w hck hg hf hI hFr hil hfl hs.2.1 (.inr (.inr (.inl h3)))
   | true =>
    by_cases h4 : 0 ≤ F ∧ F ≤ 100000
    ·by_cases h5 : fr.length = t.funcs.length
     ·cases h6 : fr.all frB with
      | false => exact evalG_fr t vg vf vI vFr i fr F w hck hg hf hI hFr hil hfl hs.2.1 h1 (by omega) h3 h4 h5 h6
      | true => exact absurd ⟨h1, by omega, h3, h4, h5, h6⟩ hno
     ·exact evalG_no t vg vf vI vFr i fr F w hck hg hf hI hFr hil hfl hs.2.1 (.inr (.inr (.inr (.inr h5))))
    ·exact evalG_no t vg vf vI vFr i fr F w hck hg hf hI hFr hil hfl hs.2.1 (.inr (.inr (.inr (.inl h4))))
 ·exact evalG_no t vg vf vI vFr i fr F w hck hg hf hI hFr hil hfl hs.2.1 (.inl h1)
theorem evalG_good (t : Tr) (vg vf vI vFr : Value) (i fr : List Int) (F : Int) (w : World) (hs : smallT t) (hw : wfT t) (hg : Globs w vg t.globals) (hf : Funcs w vf t.funcs) (hI : InN w vI i) (hFr : InN w vFr fr) (hil : i.length ≤ 1048576) (hfl : fr.length ≤ 1048576) (hok : OkRun t i fr F) {m n : Nat} {r : ER} {s' : ES} (hm : fnum t.funcs mainS = some m) (hEv : Ev t fr n (.c m []) (s00 t i F) r s') :
  Calls Tryd.prog 9 #[.agg #[vg, vf], vI, .int .i64 F, vFr] w fun e w' => EvA r s' F w e w' := by
 have hck : ∀ X, Below w.heap.size w X → Calls Tryd.prog 21 #[.agg #[vg, vf]] X fun e w' => (∃ x y, e = .returned (.agg #[.int .i64 (checkE t).1, .int .i64 x, .int .i64 y])) ∧ Below X.heap.size X w' := fun X hX => (checkCG_any l3block t vg vf X hs hw (hg.below hX) (hf.below hX)).mono fun e w' h => ⟨⟨_, _, h.1⟩, h.2⟩
 exact evalG_go t vg vf vI vFr i fr F w hck hg hf hI hFr hil hfl hs.2.1 hok.ck hok.il hok.iw hok.fu hok.fl hok.fb hm hEv
end
section
open Go.RowKit
structure Tld where
 st : Int
 ex : Int
 us : Int
 de : Int
def EvN (t : Tr) (i fr : List Int) (F : Int) (a : Tld) : Prop := ∀ (vg vf vI vFr : Value) (w : World), Globs w vg t.globals → Funcs w vf t.funcs → InN w vI i → InN w vFr fr → Calls Tryd.prog 9 #[.agg #[vg, vf], vI, .int .i64 F, vFr] w fun e w' => ∃ oa on oc, e = .returned (.agg #[.int .i64 a.st, .slice oa on oc, .int .i64 a.ex, .int .i64 a.us, .int .i64 a.de]) ∧ Below w.heap.size w w'
theorem evN_bad {t : Tr} {i fr : List Int} {F : Int} (hs : smallT t) (hw : wfT t) (hil : i.length ≤ 1000) (hfl : fr.length ≤ 1000) (h : ¬ OkRun t i fr F) : EvN t i fr F ⟨0, 0, 0, 0⟩ := fun vg vf vI vFr w h1 h2 h3 h4 => by
 refine (evalG_bad t vg vf vI vFr i fr F w hs hw h1 h2 h3 h4 (by omega) (by omega) h).mono ?_
 rintro e w' ⟨rfl, hb⟩
 exact ⟨none, 0, 0, rfl, hb⟩
theorem evN_good {t : Tr} {i fr : List Int} {F : Int} (hs : smallT t) (hw : wfT t) (hil : i.length ≤ 1000) (hfl : fr.length ≤ 1000) (h : OkRun t i fr F) {m n : Nat} {r : ER} {s' : ES} (hm : fnum t.funcs mainS = some m) (hE : Ev t fr n (.c m []) (s00 t i F) r s') : EvN t i fr F ⟨stE r, valR r, F - s'.u, s'.d⟩ := fun vg vf vI vFr w h1 h2 h3 h4 => by
 refine (evalG_good t vg vf vI vFr i fr F w hs hw h1 h2 h3 h4 (by omega) (by omega) h hm hE).mono ?_
 rintro e w' ⟨vO, rfl, ho, hb⟩
 obtain ⟨oa, oc, rfl, -⟩ := own_shapeU ho
 exact ⟨oa, _, oc, rfl, hb⟩
theorem treeF_ok {c : Int} {e : List Nd} (hl : e.length ≤ 100000) (hn : ∀ n ∈ e, n.name.size ≤ 100000) : smallT (treeF gsF c e) ∧ wfT (treeF gsF c e) := by
 refine ⟨⟨by show 5 ≤ _; omega, by show 1 ≤ _; omega, fun f hf => ?_⟩, ⟨by show 5 ≤ _; omega, fun g hg => ?_⟩, ⟨by show 1 ≤ _; omega, fun f hf => ?_⟩⟩
 ·simp only [treeF, List.mem_singleton] at hf
  subst hf
  refine ⟨by show 0 ≤ _; omega, by show 2 ≤ _; omega, fun s hs => ?_⟩
  simp only [List.mem_cons, List.not_mem_nil, or_false] at hs
  rcases hs with rfl | rfl
  ·exact ⟨by show 1 ≤ _; omega, by show 0 ≤ _; omega⟩
  ·exact ⟨by show e.length ≤ _; omega, by show 0 ≤ _; omega⟩
 ·simp only [treeF, gsF, List.mem_cons, List.not_mem_nil, or_false] at hg
  rcases hg with rfl | rfl | rfl | rfl | rfl <;> (show 1 ≤ _; omega)
 ·simp only [treeF, List.mem_singleton] at hf
  subst hf
  refine ⟨by show 4 ≤ _; omega, ⟨by show 0 ≤ _; omega, fun s hs => by cases hs⟩, ⟨by show 2 ≤ _; omega, fun s hs => ?_⟩⟩
  simp only [List.mem_cons, List.not_mem_nil, or_false] at hs
  rcases hs with rfl | rfl
  ·refine ⟨by show 1 ≤ _; omega, ⟨by show 1 ≤ _; omega, fun n hn => ?_⟩, ⟨by show 0 ≤ _; omega, fun n hn => by cases hn⟩⟩
   simp only [setX, List.mem_singleton] at hn
   subst hn
   show 0 ≤ _
   omega
  ·exact ⟨by show 0 ≤ _; omega, ⟨by show e.length ≤ _; omega, fun n hn' => by have := hn n hn'; omega⟩, ⟨by show 0 ≤ _; omega, fun n hn => by cases hn⟩⟩
theorem two_runs {c : Int} {e r : List Nd} (hc : inB c) (hl : e.length ≤ 100000) (hn : ∀ n ∈ e, n.name.size ≤ 100000) (hf : Fd apN e r) {i : List Int} (hi : i.length ≤ 1000) (hiw : i.all inBb = true) : ∃ a b, EvN (treeF gsF c e) i [0] 3000 a ∧ EvN (treeF gsF c r) i [0] 3000 b ∧ (a.st = 1 → b.st = 1 ∧ a.ex = b.ex ∧ b.us ≤ a.us) := by
 have hnr : ∀ n ∈ r, n.name.size ≤ 100000 := fun n h => by
  have := name_len (one_good hf.oneB n h)
  omega
 have hlr := hf.len
 obtain ⟨sa, wa⟩ := treeF_ok (c := c) hl hn
 obtain ⟨sb, wb⟩ := treeF_ok (c := c) (e := r) (by omega) hnr
 have okr : ∀ {x : List Nd}, (checkE (treeF gsF c x)).1 = 0 → OkRun (treeF gsF c x) i [0] 3000 := fun h => ⟨h, hi, hiw, by omega, rfl, rfl⟩
 have any : ∀ {x : List Nd}, smallT (treeF gsF c x) → wfT (treeF gsF c x) → ∃ a, EvN (treeF gsF c x) i [0] 3000 a := fun {x} hs hw => by
  by_cases h : (checkE (treeF gsF c x)).1 = 0
  ·obtain ⟨n, r1, s1, h1, -⟩ := ev_main [0] h 0 (by simp [treeF]) [] (s00 (treeF gsF c x) i 3000)
   exact ⟨_, evN_good hs hw hi (by decide) (okr h) (treeF_main _ _ _) h1⟩
  ·exact ⟨_, evN_bad hs hw hi (by decide) (fun ho => h ho.ck)⟩
 by_cases h : (checkE (treeF gsF c e)).1 = 0
 ·obtain ⟨n, r1, s1, h1, -⟩ := ev_main [0] h 0 (by simp [treeF]) [] (s00 (treeF gsF c e) i 3000)
  have hA := evN_good sa wa hi (by decide) (okr h) (treeF_main _ _ _) h1
  rcases call_end h1 with ⟨v, rfl⟩ | ⟨d, rfl, hd⟩
  ·have ok0 : OkW (s00 (treeF gsF c e) i 3000) := by
    refine ⟨fun ws hws x hx => ?_, (fun x hx => by cases hx), fun x hx => ?_⟩
    ·obtain ⟨g, -, rfl⟩ := List.mem_map.1 hws
     rw [List.eq_of_mem_replicate hx]
     exact inB0
    ·have := List.all_eq_true.1 hiw x hx
     simpa [inBb, inB] using this
   obtain ⟨m, z, h2, h3⟩ := fold_runs h hf hc ok0 h1
   have hB := evN_good sb wb hi (by decide) (okr (treeF_check h hf).1) (treeF_main _ _ _) h2
   exact ⟨_, _, hA, hB, fun _ => ⟨rfl, rfl, by show (3000 : Int) - z.u ≤ 3000 - s1.u; omega⟩⟩
  ·obtain ⟨b, hB⟩ := any sb wb
   exact ⟨_, b, hA, hB, fun h => by
    have e1 : d = 1 := h
    rcases h1.outc d rfl with e | e <;> omega⟩
 ·obtain ⟨b, hB⟩ := any sb wb
  exact ⟨_, b, evN_bad sa wa hi (by decide) (fun ho => h ho.ck), hB, fun h => by cases h⟩
end
end Go.Proofs.YtolkpkklinoegaaDoor
