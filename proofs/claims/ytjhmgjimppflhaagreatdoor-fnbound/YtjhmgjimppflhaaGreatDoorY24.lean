import Derived.WalkKit
import Derived.ProofKit
import Derived.Orders
import Derived.Test.YtjhmgjimppflhaaGreatDoorY00
set_option linter.unusedSectionVars false
variable [Inhabited Go.Proofs.YtjhmgjimppflhaaGreatDoor.Pick]
namespace Go.Proofs.YtjhmgjimppflhaaGreatDoor
set_option linter.unusedVariables false
set_option linter.unusedSimpArgs false
set_option maxRecDepth 100000
set_option maxHeartbeats 16000000
section
open Go.RowKit
def unl (listed : Array Bool) : Nat := listed.toList.countP (fun b => !b)
theorem unl_set {listed : Array Bool} {i : Nat} (h : listed.getD i true = false) : unl (listed.setIfInBounds i true) + 1 = unl listed := by
 have hi : i < listed.size := by
  by_cases hlt : i < listed.size
  ·exact hlt
  ·simp [Array.getD, hlt] at h
 have hv : listed[i] = false := by simpa [Array.getD, hi] using h
 unfold unl
 have e : (listed.setIfInBounds i true).toList = listed.toList.set i true := by simp
 rw [e, List.countP_set (by simpa using hi)]
 have hp : 0 < listed.toList.countP (fun b => !b) := by
  rw [List.countP_pos_iff]
  exact ⟨listed[i], by simp, by simp [hv]⟩
 simp only [Array.getElem_toList, hv, Bool.not_false, Bool.not_true, if_true, Bool.false_eq_true, if_false]
 omega
theorem ready_of_unl {md : Region.Mode} {ops : Array Oper} {listed : Array Bool} (h : unl listed = 0) : Region.ready md ops listed = [] := by
 rw [List.eq_nil_iff_forall_not_mem]
 intro i hi
 have := unl_set (mem_ready.1 hi).1
 omega
theorem unl_replicate (n : Nat) : unl (Array.replicate n false) = n := by simp [unl, List.countP_replicate]
theorem wpAny_inv {P : Program} {md : Region.Mode} {ops : Array Oper} {Q : Exit → Act → World → Prop} (I : Array Bool → Act → World → Prop)
  (step : ∀ listed a w, I listed a w → ∀ i ∈ Region.ready md ops listed, wpOp P ops Q i (I (listed.setIfInBounds i true)) a w)
  (fin : ∀ listed a w, I listed a w → Region.ready md ops listed = [] → Q .normal a w) :
  ∀ (fuel : Nat) (listed : Array Bool) (a : Act) (w : World), unl listed ≤ fuel → I listed a w → wpAny P md ops Q fuel listed a w
 | 0, listed, a, w, hu, hI => by
  have hr := ready_of_unl (md := md) (ops := ops) (listed := listed) (by omega)
  exact ⟨hr, fin listed a w hI hr⟩
 | fuel + 1, listed, a, w, hu, hI =>
  ⟨fun hr => fin listed a w hI hr, fun i hi => wpOp_mono (fun a' w' h' => wpAny_inv I step fin fuel _ a' w' (by have := unl_set (mem_ready.1 hi).1; omega) h') (step listed a w hI i hi)⟩
theorem wp_region_inv {P : Program} {id : Nat} {ops : Array Oper} {Q : Exit → Act → World → Prop} {a : Act} {w : World} (hm : P.follows .mixedOrders = true) (I : Array Bool → Act → World → Prop)
  (step : ∀ listed a w, I listed a w → ∀ i ∈ Region.ready .any ops listed, wpOp P ops Q i (I (listed.setIfInBounds i true)) a w)
  (fin : ∀ listed a w, I listed a w → Region.ready .any ops listed = [] → Q .normal a w) (h0 : I (Array.replicate ops.size false) a w.drew) : (Code.region id ops true).wp P Q a w :=
 wp_region_any hm (wpAny_inv I step fin ops.size _ a _ (by rw [unl_replicate]; exact Nat.le_refl _) h0)
structure Gr (ops : Array Oper) (n : Nat) (d : Nat → Tmp) : Prop where
 size : ops.size = n + 1
 op : ∀ i, i < n → ∃ o, ops[i]? = some o ∧ o.dst = some (d i) ∧ o.guard = none ∧ ∀ e ∈ o.after, e.on < i ∧ Region.binds .any e = true
 inj : ∀ i j, i < n → j < n → d i = d j → i = j
 last : ∃ o, ops[n]? = some o ∧ o.guard = none ∧ (∀ i, i < n → ∃ e ∈ o.after, e.on = i ∧ Region.binds .any e = true) ∧ ∀ e ∈ o.after, e.on < n
theorem getD_true_of_false {l : Array Bool} {i : Nat} (h : l.getD i false = true) : l.getD i true = true := by
 by_cases hi : i < l.size
 ·simp [Array.getD, hi] at h ⊢
  exact h
 ·simp [Array.getD, hi]
theorem getD_false_of_true {l : Array Bool} {i : Nat} (hi : i < l.size) (h : l.getD i true = true) : l.getD i false = true := by
 simp [Array.getD, hi] at h ⊢
 exact h
theorem getD_set_self {l : Array Bool} {i : Nat} : (l.setIfInBounds i true).getD i true = true := by
 by_cases hi : i < l.size <;> simp [Array.getD, hi]
theorem getD_set_other {l : Array Bool} {i j : Nat} (h : i ≠ j) : (l.setIfInBounds i true).getD j true = l.getD j true := by
 by_cases hj : j < l.size
 ·simp [Array.getD, hj, h]
 ·simp [Array.getD, hj]
theorem eval_put_self {a : Act} {t : Tmp} {v : Value} (h : t < a.tmps.size) : (a.put (some t) v).eval (.tmp t) = v := by
 simp [Act.eval, Act.put, h]
theorem eval_put_other {a : Act} {t s : Tmp} {v : Value} (h : t ≠ s) : (a.put (some t) v).eval (.tmp s) = a.eval (.tmp s) :=
 Act.eval_put fun d hd he => by simp at hd he; exact h (hd.trans he.symm)
structure GrI (n : Nat) (d : Nat → Tmp) (R : Nat → Value → World → Prop) (O : Nat → Value → List Nat) (a0 : Act) (w0 : World) (done : Nat → Prop) (a : Act) (w : World) : Prop where
 defers : a.defers = a0.defers
 tsize : a.tmps.size = a0.tmps.size
 frame : ∀ t, (∀ j, j < n → d j ≠ t) → a.tmps[t]? = a0.tmps[t]?
 below : Below w0.heap.size w0 w
 rel : ∀ i, i < n → done i → R i (a.eval (.tmp (d i))) w
 own : ∀ i, i < n → done i → ∀ g ∈ O i (a.eval (.tmp (d i))), w0.heap.size ≤ g ∧ g < w.heap.size
 apart : ∀ i j, i < n → j < n → i ≠ j → done i → done j → ∀ g ∈ O i (a.eval (.tmp (d i))), g ∉ O j (a.eval (.tmp (d j)))
theorem GrI.step {n : Nat} {d : Nat → Tmp} {R : Nat → Value → World → Prop} {O : Nat → Value → List Nat} {a0 : Act} {w0 : World} {done done' : Nat → Prop} {a : Act} {w w' : World} {i : Nat} {v : Value}
  (stab : ∀ i v w w', R i v w → (∀ g ∈ O i v, g < w.heap.size) → Below w.heap.size w w' → R i v w')
  (inj : ∀ i j, i < n → j < n → d i = d j → i = j) (hd : ∀ j, j < n → d j < a0.tmps.size) (h : GrI n d R O a0 w0 done a w) (hi : i < n) (hdone : ∀ j, done' j → j = i ∨ done j)
  (hR : R i v w') (hB : Below w.heap.size w w') (hO : ∀ g ∈ O i v, w.heap.size ≤ g ∧ g < w'.heap.size) : GrI n d R O a0 w0 done' (a.put (some (d i)) v) w' := by
 have hs : d i < a.tmps.size := by rw [h.tsize]; exact hd i hi
 have hsz := h.below.size
 have ev : ∀ j, j < n → j ≠ i → (a.put (some (d i)) v).eval (.tmp (d j)) = a.eval (.tmp (d j)) := fun j hj hne => eval_put_other fun e => hne (inj j i hj hi e.symm)
 have evi : (a.put (some (d i)) v).eval (.tmp (d i)) = v := eval_put_self hs
 refine ⟨h.defers, by simp [Act.put]; exact h.tsize, fun t ht => ?_, h.below.trans (hB.mono hsz), fun j hj hdj => ?_, fun j hj hdj => ?_, fun j k hj hk hne hdj hdk => ?_⟩
 ·rw [← h.frame t ht]
  have : d i ≠ t := ht i hi
  simp [Act.put, Array.getElem?_setIfInBounds_ne this]
 ·by_cases hji : j = i
  ·subst hji
   rw [evi]
   exact hR
  ·rw [ev j hj hji]
   have hd' := (hdone j hdj).resolve_left hji
   exact stab j _ w w' (h.rel j hj hd') (fun g hg => (h.own j hj hd' g hg).2) hB
 ·by_cases hji : j = i
  ·subst hji
   rw [evi]
   exact fun g hg => ⟨Nat.le_trans hsz (hO g hg).1, (hO g hg).2⟩
  ·rw [ev j hj hji]
   have hd' := (hdone j hdj).resolve_left hji
   exact fun g hg => ⟨(h.own j hj hd' g hg).1, Nat.lt_of_lt_of_le (h.own j hj hd' g hg).2 hB.size⟩
 ·by_cases hji : j = i
  ·subst hji
   rw [evi, ev k hk (fun e => hne e.symm)]
   have hd' := (hdone k hdk).resolve_left (fun e => hne e.symm)
   intro g hg hg'
   have h1 := (hO g hg).1
   have h2 := (h.own k hk hd' g hg').2
   omega
  ·by_cases hki : k = i
   ·subst hki
    rw [evi, ev j hj hji]
    have hd' := (hdone j hdj).resolve_left hji
    intro g hg hg'
    have h1 := (hO g hg').1
    have h2 := (h.own j hj hd' g hg).2
    omega
   ·rw [ev j hj hji, ev k hk hki]
    exact h.apart j k hj hk hne ((hdone j hdj).resolve_left hji) ((hdone k hdk).resolve_left hki)
theorem wp_region_grow {P : Program} {id : Nat} {ops : Array Oper} {Q : Exit → Act → World → Prop} {a0 : Act} {w0 : World} (hm : P.follows .mixedOrders = true) {n : Nat} {d : Nat → Tmp} (G : Gr ops n d)
  (R : Nat → Value → World → Prop) (O : Nat → Value → List Nat) (stab : ∀ i v w w', R i v w → (∀ g ∈ O i v, g < w.heap.size) → Below w.heap.size w w' → R i v w') (hd : ∀ j, j < n → d j < a0.tmps.size)
  (step : ∀ i o, i < n → ops[i]? = some o → ∀ a w, a.defers = a0.defers → a.tmps.size = a0.tmps.size → (∀ t, (∀ j, j < n → d j ≠ t) → a.tmps[t]? = a0.tmps[t]?) → Below w0.heap.size w0 w → (∀ e ∈ o.after, R e.on (a.eval (.tmp (d e.on))) w) → (∀ e ∈ o.after, ∀ g ∈ O e.on (a.eval (.tmp (d e.on))), w0.heap.size ≤ g ∧ g < w.heap.size) →
    (∀ e ∈ o.after, ∀ f ∈ o.after, e.on ≠ f.on → ∀ g ∈ O e.on (a.eval (.tmp (d e.on))), g ∉ O f.on (a.eval (.tmp (d f.on)))) →
    o.wp P a w (fun a' w' => ∃ v, a' = a.put (some (d i)) v ∧ R i v w' ∧ Below w.heap.size w w' ∧ ∀ g ∈ O i v, w.heap.size ≤ g ∧ g < w'.heap.size) Q)
  (fin : ∀ o, ops[n]? = some o → ∀ a w, GrI n d R O a0 w0 (fun _ => True) a w → o.wp P a w (fun a' w' => Q .normal a' w') Q) : (Code.region id ops true).wp P Q a0 w0 := by
 refine wp_region_inv hm (fun listed a w => (listed.size = n + 1 ∧ listed.getD n true = false ∧ GrI n d R O a0 w0 (fun i => listed.getD i true = true) a w) ∨ (Q .normal a w ∧ ∀ i, listed.getD i true = true)) ?_ ?_ ?_
 ·rintro listed a w (⟨hsz, hn, hI⟩ | ⟨_, hall⟩) i hi
  ·obtain ⟨hu, o, ho, hdep⟩ := mem_ready.1 hi
   have hin : i < n + 1 := by
    rw [← G.size]
    exact (Array.getElem?_eq_some_iff.mp ho).1
   by_cases hlt : i < n
   ·obtain ⟨o', ho', hdst, hg, hbe⟩ := G.op i hlt
    obtain rfl : o = o' := by rw [ho] at ho'; exact Option.some.inj ho'
    unfold wpOp
    simp only [ho]
    rw [if_pos (by simp [Region.wanted, hg])]
    refine .inl (Oper.wp_mono ?_ (step i o hlt ho a w hI.defers hI.tsize hI.frame hI.below (fun e he => ?_) (fun e he => ?_) (fun e he f hf hne => ?_)))
    ·rintro a' w' ⟨v, rfl, hR, hB, hO⟩
     refine .inl ⟨by simpa using hsz, by rw [getD_set_other (by omega)]; exact hn, hI.step stab G.inj hd hlt (fun j hj => ?_) hR hB hO⟩
     by_cases hji : j = i
     ·exact .inl hji
     ·exact .inr (by rwa [getD_set_other (fun e => hji e.symm)] at hj)
    ·exact hI.rel e.on (Nat.lt_trans (hbe e he).1 hlt) (getD_true_of_false (hdep e he (hbe e he).2))
    ·exact hI.own e.on (Nat.lt_trans (hbe e he).1 hlt) (getD_true_of_false (hdep e he (hbe e he).2))
    ·exact hI.apart e.on f.on (Nat.lt_trans (hbe e he).1 hlt) (Nat.lt_trans (hbe f hf).1 hlt) hne (getD_true_of_false (hdep e he (hbe e he).2)) (getD_true_of_false (hdep f hf (hbe f hf).2))
   ·obtain rfl : i = n := by omega
    obtain ⟨o', ho', hg, hlast, _⟩ := G.last
    obtain rfl : o = o' := by rw [ho] at ho'; exact Option.some.inj ho'
    have hall : ∀ j, j < i → listed.getD j true = true := fun j hj => by
     obtain ⟨e, he, rfl, hb⟩ := hlast j hj
     exact getD_true_of_false (hdep e he hb)
    unfold wpOp
    simp only [ho]
    rw [if_pos (by simp [Region.wanted, hg])]
    refine .inl (Oper.wp_mono ?_ (fin o ho a w ⟨hI.defers, hI.tsize, hI.frame, hI.below, fun j hj _ => hI.rel j hj (hall j hj), fun j hj _ => hI.own j hj (hall j hj), fun j k hj hk hne _ _ => hI.apart j k hj hk hne (hall j hj) (hall k hk)⟩))
    intro a' w' hq
    refine .inr ⟨hq, fun j => ?_⟩
    by_cases hji : j = i
    ·subst hji
     exact getD_set_self
    ·rw [getD_set_other (fun e => hji e.symm)]
     by_cases hj : j < i
     ·exact hall j hj
     ·have : ¬ j < listed.size := by omega
      simp [Array.getD, this]
  ·have := (mem_ready.1 hi).1
   rw [hall i] at this
   cases this
 ·rintro listed a w (⟨hsz, hn, hI⟩ | ⟨hq, _⟩) hr
  ·exfalso
   have key : ∀ m, ∀ j, j < m → j ≤ n → listed.getD j true = true := by
    intro m
    induction m with
    | zero => intro j hj; omega
    | succ m ih =>
     intro j hj hjn
     by_cases hjm : j < m
     ·exact ih j hjm hjn
     ·obtain rfl : j = m := by omega
      cases hb : listed.getD j true with
      | true => rfl
      | false =>
       exfalso
       have hmem : j ∈ Region.ready .any ops listed := by
        rw [mem_ready]
        refine ⟨hb, ?_⟩
        by_cases hlt : j < n
        ·obtain ⟨o, ho, _, _, hbe⟩ := G.op j hlt
         exact ⟨o, ho, fun e he _ => getD_false_of_true (by have := (hbe e he).1; omega) (ih e.on (hbe e he).1 (by have := (hbe e he).1; omega))⟩
        ·obtain rfl : j = n := by omega
         obtain ⟨o, ho, _, _, hlt'⟩ := G.last
         exact ⟨o, ho, fun e he _ => getD_false_of_true (by have := hlt' e he; omega) (ih e.on (hlt' e he) (by have := hlt' e he; omega))⟩
       rw [hr] at hmem
       cases hmem
   rw [key (n + 1) n (Nat.lt_succ_self _) (Nat.le_refl _)] at hn
   cases hn
  ·exact hq
 ·refine .inl ⟨by simp [G.size], by simp [Array.getD, G.size], ⟨rfl, rfl, fun _ _ => rfl, (Below.refl _ _).drew, fun i hi h => ?_, fun i hi h => ?_, fun i j hi hj hne h => ?_⟩⟩ <;>
   (exfalso; simp [Array.getD, G.size] at h; omega)
end
end Go.Proofs.YtjhmgjimppflhaaGreatDoor
