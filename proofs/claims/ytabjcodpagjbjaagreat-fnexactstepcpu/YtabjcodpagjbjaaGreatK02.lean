import Derived.Test.YtabjcodpagjbjaaGreatK00
import Derived.Deep.RegionWith
import Derived.WalkKit
import Derived.ProofKit
import Derived.Orders
import Derived.Test.YtabjcodpagjbjaaGreatK01
import Derived.Deep.RegionHeld3
import Derived.OwnWalk
import Derived.Laws.OwnMore
import Derived.Laws.AppendOwnNone
import Derived.Lib.AppendZeros
namespace Go.Proofs.YtabjcodpagjbjaaGreat
open Go.RowKit
set_option linter.unusedVariables false
set_option linter.unusedSimpArgs false

set_option maxHeartbeats 1000000 in
theorem words_i (v : Value) (zs : List Int) (w : World) (hl : zs.length ≤ 2097152) (h : Lis .i64 w v zs) :
    Calls Tryz.prog 46 #[v] w fun e w' => e = .returned (.bool (wrds zs)) ∧ ∃ n, w' = w.drewN n := by
  rcases h.cases with ⟨rfl, a, cap, rfl⟩ | ⟨hn, g, off, cap, rfl, hR⟩
  · clear h hl
    go_enter Tryz.func46, Tryz.ntmps46
    go_wp2
    refine wp_loop_rounds 1 ?_
    rw [rounds_succ]
    go_wp2
    go_ret
    exact ⟨rfl, 0, rfl⟩
  · have hcell := hR.cell
    clear h hR
    go_enter Tryz.func46, Tryz.ntmps46
    go_wp2
    go_loopw [7] (fun i wr => ∃ k : Nat, k ≤ zs.length ∧ i = .int .i64 k ∧ (∀ j, j < k → wrd (zs.getD j 0) = true) ∧ ∃ n, wr = w.drewN n) (fun i _ => zs.length - (intOf i).toNat)
    case atStart => exact ⟨0, Nat.zero_le _, rfl, fun j hj => absurd hj (Nat.not_lt_zero _), 0, rfl⟩
    case round =>
      obtain ⟨k, hk, rfl, hall, n, rfl⟩ := hrel
      have HA : Hid _ := hall
      clear hall
      by_cases hlt : k < zs.length
      · have hc := hcell k hlt
        have HC : Hid _ := hcell
        clear hcell
        generalize hz : zs.getD k 0 = z at hc
        have HZ : Hid _ := hz
        clear hz
        by_cases hw : wrd z = true
        · have hwz : wrap32 z = z := by have := (wrd_wrap z).mpr hw; rw [IntKind.wrap_i32] at this; unfold wrap32; exact this
          have HW : Hid _ := hw
          clear hw
          go_wp2_with (go_at_call 62; refine (wrap_i _ _).mono ?_; rintro e w1 ⟨rfl, rfl⟩)
          all_goals go_roundw
          all_goals first
            | exact ⟨k + 1, by omega, by go_num, fun j hj => by
                by_cases hjk : j = k
                · subst hjk
                  rw [HZ.out]
                  exact HW.out
                · exact HA.out j (by omega), _, rfl⟩
            | (simp [intOf]; omega)
        · have hwz : ¬ wrap32 z = z := fun e => hw ((wrd_wrap z).mp (by rw [IntKind.wrap_i32]; unfold wrap32 at e; exact e))
          have HW : Hid _ := hw
          clear hw
          go_wp2_with (go_at_call 62; refine (wrap_i _ _).mono ?_; rintro e w1 ⟨rfl, rfl⟩)
          all_goals go_ret
          all_goals exact ⟨ret_b (wrds_no zs k hlt (by rw [HZ.out]; exact Bool.not_eq_true _ ▸ HW.out)).symm, _, rfl⟩
      · go_wp2
        go_ret
        exact ⟨ret_b (wrds_yes zs fun j hj => HA.out j (by omega)).symm, _, rfl⟩

def okIn (zs : List Int) : Bool := decide (zs.length ≤ 1000) && wrds zs
set_option maxHeartbeats 1000000 in
theorem input_i (v : Value) (zs : List Int) (w : World) (hl : zs.length ≤ 2097152) (h : Lis .i64 w v zs) :
    Calls Tryz.prog 45 #[v] w fun e w' => e = .returned (.bool (okIn zs)) ∧ Below w.heap.size w w' := by
  have HL : Hid _ := h
  obtain ⟨a, cap, rfl⟩ := h.len0
  clear h
  by_cases h1 : zs.length ≤ 1000
  · have hb : ∀ w' n, w' = w.drewN n → Below w.heap.size w w' := fun w' n e => e ▸ below_drewN (Below.refl _ _) n
    go_enter Tryz.func45, Tryz.ntmps45
    go_wp2_with (go_at_call 46; refine (words_i _ zs _ hl HL.out).mono ?_; rintro e w1 ⟨rfl, n, rfl⟩)
    go_ret
    exact ⟨ret_b (by simp [okIn, h1]), hb _ _ rfl⟩
  · go_enter Tryz.func45, Tryz.ntmps45
    go_wp2
    go_ret
    exact ⟨ret_b (by simp [okIn]; omega), Below.refl _ _⟩

def vimg (n : Nat) (d b : Int) : Bool := decide (1 ≤ n ∧ n ≤ 20000 ∧ 0 ≤ d ∧ d ≤ 65536 ∧ d % 4 = 0 ∧ 0 ≤ b ∧ b ≤ 1000000 ∧ b % 16 = 0)
set_option maxHeartbeats 1000000 in
theorem vs_any (a : Option Addr) (len cap : Nat) (d bd : Int) (w : World) (hl : len ≤ 1048576) :
    Calls Tryz.prog 39 #[.agg #[.slice a len cap, .int .i64 d, .int .i64 bd]] w fun e w' => e = .returned (.bool (vimg len d bd)) ∧ Below w.heap.size w w' := by
  go_enter Tryz.func39, Tryz.ntmps39
  go_wp2
  all_goals go_ret
  all_goals refine ⟨ret_b ?_, (Below.refl _ _).alloc (Nat.le_refl _) _⟩
  all_goals (unfold vimg; rw [Bool.eq_iff_iff]; simp; try omega)
set_option maxHeartbeats 1000000 in
theorem vi_any (a : Option Addr) (len cap : Nat) (d bd : Int) (w : World) (hl : len ≤ 1048576) :
    Calls Tryz.prog 24 #[.agg #[.slice a len cap, .int .i64 d, .int .i64 bd]] w fun e w' => e = .returned (.bool (vimg len d bd)) ∧ Below w.heap.size w w' := by
  go_enter Tryz.func24, Tryz.ntmps24
  go_wp2
  all_goals go_ret
  all_goals refine ⟨ret_b ?_, (Below.refl _ _).alloc (Nat.le_refl _) _⟩
  all_goals (unfold vimg; rw [Bool.eq_iff_iff]; simp; try omega)

end Go.Proofs.YtabjcodpagjbjaaGreat

namespace Go.Proofs.YtabjcodpagjbjaaGreat
open Go.RowKit
set_option linter.unusedVariables false

/-- How many have not come up yet. -/
def unl (listed : Array Bool) : Nat := listed.toList.countP (fun b => !b)
theorem unl_set {listed : Array Bool} {i : Nat} (h : listed.getD i true = false) : unl (listed.setIfInBounds i true) + 1 = unl listed := by
  have hi : i < listed.size := by
    by_cases hlt : i < listed.size
    · exact hlt
    · simp [Array.getD, hlt] at h
  have hv : listed[i] = false := by simpa [Array.getD, hi] using h
  unfold unl
  have e : (listed.setIfInBounds i true).toList = listed.toList.set i true := by simp
  rw [e, List.countP_set (by simpa using hi)]
  have hp : 0 < listed.toList.countP (fun b => !b) := by
    rw [List.countP_pos_iff]
    exact ⟨listed[i], by simp, by simp [hv]⟩
  simp only [Array.getElem_toList, hv, Bool.not_false, Bool.not_true, if_true, Bool.false_eq_true, if_false]
  omega
theorem ready_of_unl {md : Region.Mode} {ops : Array Oper} {listed : Array Bool} (h : unl listed = 0) : Region.ready md ops listed = [] := by
  rw [List.eq_nil_iff_forall_not_mem]
  intro i hi
  have := unl_set (mem_ready.1 hi).1
  omega
theorem unl_replicate (n : Nat) : unl (Array.replicate n false) = n := by simp [unl, List.countP_replicate]

/-- A region in whatever order, by a condition on who has come up, the frame and the world. -/
theorem wpAny_inv {P : Program} {md : Region.Mode} {ops : Array Oper} {Q : Exit → Act → World → Prop} (I : Array Bool → Act → World → Prop)
    (step : ∀ listed a w, I listed a w → ∀ i ∈ Region.ready md ops listed, wpOp P ops Q i (I (listed.setIfInBounds i true)) a w)
    (fin : ∀ listed a w, I listed a w → Region.ready md ops listed = [] → Q .normal a w) :
    ∀ (fuel : Nat) (listed : Array Bool) (a : Act) (w : World), unl listed ≤ fuel → I listed a w → wpAny P md ops Q fuel listed a w
  | 0, listed, a, w, hu, hI => by
    have hr := ready_of_unl (md := md) (ops := ops) (listed := listed) (by omega)
    exact ⟨hr, fin listed a w hI hr⟩
  | fuel + 1, listed, a, w, hu, hI =>
    ⟨fun hr => fin listed a w hI hr, fun i hi => wpOp_mono (fun a' w' h' => wpAny_inv I step fin fuel _ a' w' (by have := unl_set (mem_ready.1 hi).1; omega) h') (step listed a w hI i hi)⟩
theorem wp_region_inv {P : Program} {id : Nat} {ops : Array Oper} {Q : Exit → Act → World → Prop} {a : Act} {w : World} (hm : P.follows .mixedOrders = true) (I : Array Bool → Act → World → Prop)
    (step : ∀ listed a w, I listed a w → ∀ i ∈ Region.ready .any ops listed, wpOp P ops Q i (I (listed.setIfInBounds i true)) a w)
    (fin : ∀ listed a w, I listed a w → Region.ready .any ops listed = [] → Q .normal a w) (h0 : I (Array.replicate ops.size false) a w.drew) : (Code.region id ops true).wp P Q a w :=
  wp_region_any hm (wpAny_inv I step fin ops.size _ a _ (by rw [unl_replicate]; exact Nat.le_refl _) h0)

theorem nodup_mid {A B C : List Nat} {n : Nat} (h : (A ++ B).Nodup) (hlt : ∀ x ∈ A ++ B, x < n) (hc : C.Nodup) (hge : ∀ x ∈ C, n ≤ x) : (A ++ C ++ B).Nodup := by
  simp only [List.nodup_append, List.mem_append] at *
  refine ⟨⟨h.1, hc, fun a ha b hb => ?_⟩, h.2.1, fun a ha b hb => ?_⟩
  · have h1 := hlt a (.inl ha)
    have h2 := hge b hb
    omega
  · rcases ha with ha | ha
    · exact h.2.2 a ha b hb
    · have h1 := hlt b (.inr hb)
      have h2 := hge a ha
      omega

/-- Operations that each make a value of their own, in the order of their numbers but for the draw; the last one waits for all. -/
structure Gr (ops : Array Oper) (n : Nat) (d : Nat → Tmp) : Prop where
  size : ops.size = n + 1
  op : ∀ i, i < n → ∃ o, ops[i]? = some o ∧ o.dst = some (d i) ∧ o.guard = none ∧ ∀ e ∈ o.after, e.on < i ∧ Region.binds .any e = true
  inj : ∀ i j, i < n → j < n → d i = d j → i = j
  last : ∃ o, ops[n]? = some o ∧ o.guard = none ∧ (∀ i, i < n → ∃ e ∈ o.after, e.on = i ∧ Region.binds .any e = true) ∧ ∀ e ∈ o.after, e.on < n

theorem getD_true_of_false {l : Array Bool} {i : Nat} (h : l.getD i false = true) : l.getD i true = true := by
  by_cases hi : i < l.size
  · simp [Array.getD, hi] at h ⊢
    exact h
  · simp [Array.getD, hi]
theorem getD_false_of_true {l : Array Bool} {i : Nat} (hi : i < l.size) (h : l.getD i true = true) : l.getD i false = true := by
  simp [Array.getD, hi] at h ⊢
  exact h
theorem getD_set_self {l : Array Bool} {i : Nat} : (l.setIfInBounds i true).getD i true = true := by
  by_cases hi : i < l.size <;> simp [Array.getD, hi]
theorem getD_set_other {l : Array Bool} {i j : Nat} (h : i ≠ j) : (l.setIfInBounds i true).getD j true = l.getD j true := by
  by_cases hj : j < l.size
  · simp [Array.getD, hj, h]
  · simp [Array.getD, hj]
theorem eval_put_self {a : Act} {t : Tmp} {v : Value} (h : t < a.tmps.size) : (a.put (some t) v).eval (.tmp t) = v := by
  simp [Act.eval, Act.put, h]
theorem eval_put_other {a : Act} {t s : Tmp} {v : Value} (h : t ≠ s) : (a.put (some t) v).eval (.tmp s) = a.eval (.tmp s) :=
  Act.eval_put fun d hd he => by simp at hd he; exact h (hd.trans he.symm)

/-- What holds in the midst. -/
structure GrI (n : Nat) (d : Nat → Tmp) (R : Nat → Value → World → Prop) (O : Nat → Value → List Nat) (a0 : Act) (w0 : World) (done : Nat → Prop) (a : Act) (w : World) : Prop where
  defers : a.defers = a0.defers
  tsize : a.tmps.size = a0.tmps.size
  frame : ∀ t, (∀ j, j < n → d j ≠ t) → a.tmps[t]? = a0.tmps[t]?
  below : Below w0.heap.size w0 w
  rel : ∀ i, i < n → done i → R i (a.eval (.tmp (d i))) w
  own : ∀ i, i < n → done i → ∀ g ∈ O i (a.eval (.tmp (d i))), w0.heap.size ≤ g ∧ g < w.heap.size
  apart : ∀ i j, i < n → j < n → i ≠ j → done i → done j → ∀ g ∈ O i (a.eval (.tmp (d i))), g ∉ O j (a.eval (.tmp (d j)))

theorem GrI.step {n : Nat} {d : Nat → Tmp} {R : Nat → Value → World → Prop} {O : Nat → Value → List Nat} {a0 : Act} {w0 : World} {done done' : Nat → Prop} {a : Act} {w w' : World} {i : Nat} {v : Value}
    (stab : ∀ i v w w', R i v w → (∀ g ∈ O i v, g < w.heap.size) → Below w.heap.size w w' → R i v w')
    (inj : ∀ i j, i < n → j < n → d i = d j → i = j) (hd : ∀ j, j < n → d j < a0.tmps.size) (h : GrI n d R O a0 w0 done a w) (hi : i < n) (hdone : ∀ j, done' j → j = i ∨ done j)
    (hR : R i v w') (hB : Below w.heap.size w w') (hO : ∀ g ∈ O i v, w.heap.size ≤ g ∧ g < w'.heap.size) : GrI n d R O a0 w0 done' (a.put (some (d i)) v) w' := by
  have hs : d i < a.tmps.size := by rw [h.tsize]; exact hd i hi
  have hsz := h.below.size
  have ev : ∀ j, j < n → j ≠ i → (a.put (some (d i)) v).eval (.tmp (d j)) = a.eval (.tmp (d j)) := fun j hj hne => eval_put_other fun e => hne (inj j i hj hi e.symm)
  have evi : (a.put (some (d i)) v).eval (.tmp (d i)) = v := eval_put_self hs
  refine ⟨h.defers, by simp [Act.put]; exact h.tsize, fun t ht => ?_, h.below.trans (hB.mono hsz), fun j hj hdj => ?_, fun j hj hdj => ?_, fun j k hj hk hne hdj hdk => ?_⟩
  · rw [← h.frame t ht]
    have : d i ≠ t := ht i hi
    simp [Act.put, Array.getElem?_setIfInBounds_ne this]
  · by_cases hji : j = i
    · subst hji
      rw [evi]
      exact hR
    · rw [ev j hj hji]
      have hd' := (hdone j hdj).resolve_left hji
      exact stab j _ w w' (h.rel j hj hd') (fun g hg => (h.own j hj hd' g hg).2) hB
  · by_cases hji : j = i
    · subst hji
      rw [evi]
      exact fun g hg => ⟨Nat.le_trans hsz (hO g hg).1, (hO g hg).2⟩
    · rw [ev j hj hji]
      have hd' := (hdone j hdj).resolve_left hji
      exact fun g hg => ⟨(h.own j hj hd' g hg).1, Nat.lt_of_lt_of_le (h.own j hj hd' g hg).2 hB.size⟩
  · by_cases hji : j = i
    · subst hji
      rw [evi, ev k hk (fun e => hne e.symm)]
      have hd' := (hdone k hdk).resolve_left (fun e => hne e.symm)
      intro g hg hg'
      have h1 := (hO g hg).1
      have h2 := (h.own k hk hd' g hg').2
      omega
    · by_cases hki : k = i
      · subst hki
        rw [evi, ev j hj hji]
        have hd' := (hdone j hdj).resolve_left hji
        intro g hg hg'
        have h1 := (hO g hg').1
        have h2 := (h.own j hj hd' g hg).2
        omega
      · rw [ev j hj hji, ev k hk hki]
        exact h.apart j k hj hk hne ((hdone j hdj).resolve_left hji) ((hdone k hdk).resolve_left hki)

theorem wp_region_grow {P : Program} {id : Nat} {ops : Array Oper} {Q : Exit → Act → World → Prop} {a0 : Act} {w0 : World} (hm : P.follows .mixedOrders = true) {n : Nat} {d : Nat → Tmp} (G : Gr ops n d)
    (R : Nat → Value → World → Prop) (O : Nat → Value → List Nat) (stab : ∀ i v w w', R i v w → (∀ g ∈ O i v, g < w.heap.size) → Below w.heap.size w w' → R i v w') (hd : ∀ j, j < n → d j < a0.tmps.size)
    (step : ∀ i o, i < n → ops[i]? = some o → ∀ a w, a.defers = a0.defers → a.tmps.size = a0.tmps.size → (∀ t, (∀ j, j < n → d j ≠ t) → a.tmps[t]? = a0.tmps[t]?) → Below w0.heap.size w0 w → (∀ e ∈ o.after, R e.on (a.eval (.tmp (d e.on))) w) → (∀ e ∈ o.after, ∀ g ∈ O e.on (a.eval (.tmp (d e.on))), w0.heap.size ≤ g ∧ g < w.heap.size) →
      (∀ e ∈ o.after, ∀ f ∈ o.after, e.on ≠ f.on → ∀ g ∈ O e.on (a.eval (.tmp (d e.on))), g ∉ O f.on (a.eval (.tmp (d f.on)))) →
      o.wp P a w (fun a' w' => ∃ v, a' = a.put (some (d i)) v ∧ R i v w' ∧ Below w.heap.size w w' ∧ ∀ g ∈ O i v, w.heap.size ≤ g ∧ g < w'.heap.size) Q)
    (fin : ∀ o, ops[n]? = some o → ∀ a w, GrI n d R O a0 w0 (fun _ => True) a w → o.wp P a w (fun a' w' => Q .normal a' w') Q) : (Code.region id ops true).wp P Q a0 w0 := by
  refine wp_region_inv hm (fun listed a w => (listed.size = n + 1 ∧ listed.getD n true = false ∧ GrI n d R O a0 w0 (fun i => listed.getD i true = true) a w) ∨ (Q .normal a w ∧ ∀ i, listed.getD i true = true)) ?_ ?_ ?_
  · rintro listed a w (⟨hsz, hn, hI⟩ | ⟨_, hall⟩) i hi
    · obtain ⟨hu, o, ho, hdep⟩ := mem_ready.1 hi
      have hin : i < n + 1 := by
        rw [← G.size]
        exact (Array.getElem?_eq_some_iff.mp ho).1
      by_cases hlt : i < n
      · obtain ⟨o', ho', hdst, hg, hbe⟩ := G.op i hlt
        obtain rfl : o = o' := by rw [ho] at ho'; exact Option.some.inj ho'
        unfold wpOp
        simp only [ho]
        rw [if_pos (by simp [Region.wanted, hg])]
        refine .inl (Oper.wp_mono ?_ (step i o hlt ho a w hI.defers hI.tsize hI.frame hI.below (fun e he => ?_) (fun e he => ?_) (fun e he f hf hne => ?_)))
        · rintro a' w' ⟨v, rfl, hR, hB, hO⟩
          refine .inl ⟨by simpa using hsz, by rw [getD_set_other (by omega)]; exact hn, hI.step stab G.inj hd hlt (fun j hj => ?_) hR hB hO⟩
          by_cases hji : j = i
          · exact .inl hji
          · exact .inr (by rwa [getD_set_other (fun e => hji e.symm)] at hj)
        · exact hI.rel e.on (Nat.lt_trans (hbe e he).1 hlt) (getD_true_of_false (hdep e he (hbe e he).2))
        · exact hI.own e.on (Nat.lt_trans (hbe e he).1 hlt) (getD_true_of_false (hdep e he (hbe e he).2))
        · exact hI.apart e.on f.on (Nat.lt_trans (hbe e he).1 hlt) (Nat.lt_trans (hbe f hf).1 hlt) hne (getD_true_of_false (hdep e he (hbe e he).2)) (getD_true_of_false (hdep f hf (hbe f hf).2))
      · obtain rfl : i = n := by omega
        obtain ⟨o', ho', hg, hlast, _⟩ := G.last
        obtain rfl : o = o' := by rw [ho] at ho'; exact Option.some.inj ho'
        have hall : ∀ j, j < i → listed.getD j true = true := fun j hj => by
          obtain ⟨e, he, rfl, hb⟩ := hlast j hj
          exact getD_true_of_false (hdep e he hb)
        unfold wpOp
        simp only [ho]
        rw [if_pos (by simp [Region.wanted, hg])]
        refine .inl (Oper.wp_mono ?_ (fin o ho a w ⟨hI.defers, hI.tsize, hI.frame, hI.below, fun j hj _ => hI.rel j hj (hall j hj), fun j hj _ => hI.own j hj (hall j hj), fun j k hj hk hne _ _ => hI.apart j k hj hk hne (hall j hj) (hall k hk)⟩))
        intro a' w' hq
        refine .inr ⟨hq, fun j => ?_⟩
        by_cases hji : j = i
        · subst hji
          exact getD_set_self
        · rw [getD_set_other (fun e => hji e.symm)]
          by_cases hj : j < i
          · exact hall j hj
          · have : ¬ j < listed.size := by omega
            simp [Array.getD, this]
    · have := (mem_ready.1 hi).1
      rw [hall i] at this
      cases this
  · rintro listed a w (⟨hsz, hn, hI⟩ | ⟨hq, _⟩) hr
    · exfalso
      have key : ∀ m, ∀ j, j < m → j ≤ n → listed.getD j true = true := by
        intro m
        induction m with
        | zero => intro j hj; omega
        | succ m ih =>
          intro j hj hjn
          by_cases hjm : j < m
          · exact ih j hjm hjn
          · obtain rfl : j = m := by omega
            cases hb : listed.getD j true with
            | true => rfl
            | false =>
              exfalso
              have hmem : j ∈ Region.ready .any ops listed := by
                rw [mem_ready]
                refine ⟨hb, ?_⟩
                by_cases hlt : j < n
                · obtain ⟨o, ho, _, _, hbe⟩ := G.op j hlt
                  exact ⟨o, ho, fun e he _ => getD_false_of_true (by have := (hbe e he).1; omega) (ih e.on (hbe e he).1 (by have := (hbe e he).1; omega))⟩
                · obtain rfl : j = n := by omega
                  obtain ⟨o, ho, _, _, hlt'⟩ := G.last
                  exact ⟨o, ho, fun e he _ => getD_false_of_true (by have := hlt' e he; omega) (ih e.on (hlt' e he) (by have := hlt' e he; omega))⟩
              rw [hr] at hmem
              cases hmem
      rw [key (n + 1) n (Nat.lt_succ_self _) (Nat.le_refl _)] at hn
      cases hn
    · exact hq
  · refine .inl ⟨by simp [G.size], by simp [Array.getD, G.size], ⟨rfl, rfl, fun _ _ => rfl, (Below.refl _ _).drew, fun i hi h => ?_, fun i hi h => ?_, fun i j hi hj hne h => ?_⟩⟩ <;>
      (exfalso; simp [Array.getD, G.size] at h; omega)
end Go.Proofs.YtabjcodpagjbjaaGreat

namespace Go.Proofs.YtabjcodpagjbjaaGreat
open Go.RowKit
set_option linter.unusedVariables false
/-- The eight cells of a machine in its box. -/
structure Bx (w : World) (g : Nat) (x0 x1 x2 x3 x4 x5 x6 x7 : Value) : Prop where
  c0 : w.cell? ⟨g, 0, none⟩ = some x0
  c1 : w.cell? ⟨g, 1, none⟩ = some x1
  c2 : w.cell? ⟨g, 2, none⟩ = some x2
  c3 : w.cell? ⟨g, 3, none⟩ = some x3
  c4 : w.cell? ⟨g, 4, none⟩ = some x4
  c5 : w.cell? ⟨g, 5, none⟩ = some x5
  c6 : w.cell? ⟨g, 6, none⟩ = some x6
  c7 : w.cell? ⟨g, 7, none⟩ = some x7
  fz : ∀ j, w.frozen? ⟨g, j, none⟩ = false
theorem Bx.keep {w w' : World} {g : Nat} {x0 x1 x2 x3 x4 x5 x6 x7 : Value} (h : Bx w g x0 x1 x2 x3 x4 x5 x6 x7) (hb : w'.heap[g]? = w.heap[g]?) : Bx w' g x0 x1 x2 x3 x4 x5 x6 x7 := by
  have k := fun j => World.cell?_of_block (w := w) (w' := w') (a := ⟨g, j, none⟩) hb
  exact ⟨(k 0).trans h.c0, (k 1).trans h.c1, (k 2).trans h.c2, (k 3).trans h.c3, (k 4).trans h.c4, (k 5).trans h.c5, (k 6).trans h.c6, (k 7).trans h.c7, fun j => (World.frozen?_of_block (w := w) (a := ⟨g, j, none⟩) hb).trans (h.fz j)⟩
theorem Bx.lt {w : World} {g : Nat} {x0 x1 x2 x3 x4 x5 x6 x7 : Value} (h : Bx w g x0 x1 x2 x3 x4 x5 x6 x7) : g < w.heap.size := World.block_lt_of_cell? _ _ h.c0
theorem Bx.below {w w' : World} {g : Nat} {x0 x1 x2 x3 x4 x5 x6 x7 : Value} (h : Bx w g x0 x1 x2 x3 x4 x5 x6 x7) (hb : Below w.heap.size w w') : Bx w' g x0 x1 x2 x3 x4 x5 x6 x7 := h.keep (hb.block g h.lt)
theorem Bx.of_heap {w : World} {g : Nat} {t : TypeId} {x0 x1 x2 x3 x4 x5 x6 x7 : Value} (h : w.heap[g]? = some (.cells #[x0, x1, x2, x3, x4, x5, x6, x7] t)) : Bx w g x0 x1 x2 x3 x4 x5 x6 x7 := by
  constructor
  all_goals first | (simp [World.cell?, h]; done) | (intro j; simp [World.frozen?, h])
theorem Bx.other {w : World} {g : Nat} {x0 x1 x2 x3 x4 x5 x6 x7 : Value} (h : Bx w g x0 x1 x2 x3 x4 x5 x6 x7) {p : Addr} (hp : g ≠ p.block) (u : Value) : Bx (w.setCell p u) g x0 x1 x2 x3 x4 x5 x6 x7 := h.keep (Below.heap_setCell w p u g hp)
theorem Bx.alloc {w : World} {g : Nat} {x0 x1 x2 x3 x4 x5 x6 x7 : Value} (h : Bx w g x0 x1 x2 x3 x4 x5 x6 x7) (ob : Obj) : Bx (w.alloc ob) g x0 x1 x2 x3 x4 x5 x6 x7 := h.keep (Below.heap_alloc w ob g h.lt)
theorem Bx.drewN {w : World} {g : Nat} {x0 x1 x2 x3 x4 x5 x6 x7 : Value} (h : Bx w g x0 x1 x2 x3 x4 x5 x6 x7) (n : Nat) : Bx (w.drewN n) g x0 x1 x2 x3 x4 x5 x6 x7 := h.keep rfl
theorem ne_off {g i j : Nat} (h : i ≠ j) : (⟨g, i, none⟩ : Addr) ≠ ⟨g, j, none⟩ := fun e => by simp only [Addr.mk.injEq] at e; exact h e.2.1
theorem Bx.s0 {w : World} {g : Nat} {x0 x1 x2 x3 x4 x5 x6 x7 : Value} (h : Bx w g x0 x1 x2 x3 x4 x5 x6 x7) (v : Value) : Bx (w.setCell ⟨g, 0, none⟩ v) g v x1 x2 x3 x4 x5 x6 x7 :=
  ⟨World.cell?_setCell_same _ _ _ h.c0, (World.cell?_setCell_other _ _ _ _ (ne_off (by decide))).trans h.c1, (World.cell?_setCell_other _ _ _ _ (ne_off (by decide))).trans h.c2, (World.cell?_setCell_other _ _ _ _ (ne_off (by decide))).trans h.c3, (World.cell?_setCell_other _ _ _ _ (ne_off (by decide))).trans h.c4, (World.cell?_setCell_other _ _ _ _ (ne_off (by decide))).trans h.c5, (World.cell?_setCell_other _ _ _ _ (ne_off (by decide))).trans h.c6, (World.cell?_setCell_other _ _ _ _ (ne_off (by decide))).trans h.c7, fun j => by simpa using h.fz j⟩
theorem Bx.s1 {w : World} {g : Nat} {x0 x1 x2 x3 x4 x5 x6 x7 : Value} (h : Bx w g x0 x1 x2 x3 x4 x5 x6 x7) (v : Value) : Bx (w.setCell ⟨g, 1, none⟩ v) g x0 v x2 x3 x4 x5 x6 x7 :=
  ⟨(World.cell?_setCell_other _ _ _ _ (ne_off (by decide))).trans h.c0, World.cell?_setCell_same _ _ _ h.c1, (World.cell?_setCell_other _ _ _ _ (ne_off (by decide))).trans h.c2, (World.cell?_setCell_other _ _ _ _ (ne_off (by decide))).trans h.c3, (World.cell?_setCell_other _ _ _ _ (ne_off (by decide))).trans h.c4, (World.cell?_setCell_other _ _ _ _ (ne_off (by decide))).trans h.c5, (World.cell?_setCell_other _ _ _ _ (ne_off (by decide))).trans h.c6, (World.cell?_setCell_other _ _ _ _ (ne_off (by decide))).trans h.c7, fun j => by simpa using h.fz j⟩
theorem Bx.s2 {w : World} {g : Nat} {x0 x1 x2 x3 x4 x5 x6 x7 : Value} (h : Bx w g x0 x1 x2 x3 x4 x5 x6 x7) (v : Value) : Bx (w.setCell ⟨g, 2, none⟩ v) g x0 x1 v x3 x4 x5 x6 x7 :=
  ⟨(World.cell?_setCell_other _ _ _ _ (ne_off (by decide))).trans h.c0, (World.cell?_setCell_other _ _ _ _ (ne_off (by decide))).trans h.c1, World.cell?_setCell_same _ _ _ h.c2, (World.cell?_setCell_other _ _ _ _ (ne_off (by decide))).trans h.c3, (World.cell?_setCell_other _ _ _ _ (ne_off (by decide))).trans h.c4, (World.cell?_setCell_other _ _ _ _ (ne_off (by decide))).trans h.c5, (World.cell?_setCell_other _ _ _ _ (ne_off (by decide))).trans h.c6, (World.cell?_setCell_other _ _ _ _ (ne_off (by decide))).trans h.c7, fun j => by simpa using h.fz j⟩
theorem Bx.s3 {w : World} {g : Nat} {x0 x1 x2 x3 x4 x5 x6 x7 : Value} (h : Bx w g x0 x1 x2 x3 x4 x5 x6 x7) (v : Value) : Bx (w.setCell ⟨g, 3, none⟩ v) g x0 x1 x2 v x4 x5 x6 x7 :=
  ⟨(World.cell?_setCell_other _ _ _ _ (ne_off (by decide))).trans h.c0, (World.cell?_setCell_other _ _ _ _ (ne_off (by decide))).trans h.c1, (World.cell?_setCell_other _ _ _ _ (ne_off (by decide))).trans h.c2, World.cell?_setCell_same _ _ _ h.c3, (World.cell?_setCell_other _ _ _ _ (ne_off (by decide))).trans h.c4, (World.cell?_setCell_other _ _ _ _ (ne_off (by decide))).trans h.c5, (World.cell?_setCell_other _ _ _ _ (ne_off (by decide))).trans h.c6, (World.cell?_setCell_other _ _ _ _ (ne_off (by decide))).trans h.c7, fun j => by simpa using h.fz j⟩
theorem Bx.s4 {w : World} {g : Nat} {x0 x1 x2 x3 x4 x5 x6 x7 : Value} (h : Bx w g x0 x1 x2 x3 x4 x5 x6 x7) (v : Value) : Bx (w.setCell ⟨g, 4, none⟩ v) g x0 x1 x2 x3 v x5 x6 x7 :=
  ⟨(World.cell?_setCell_other _ _ _ _ (ne_off (by decide))).trans h.c0, (World.cell?_setCell_other _ _ _ _ (ne_off (by decide))).trans h.c1, (World.cell?_setCell_other _ _ _ _ (ne_off (by decide))).trans h.c2, (World.cell?_setCell_other _ _ _ _ (ne_off (by decide))).trans h.c3, World.cell?_setCell_same _ _ _ h.c4, (World.cell?_setCell_other _ _ _ _ (ne_off (by decide))).trans h.c5, (World.cell?_setCell_other _ _ _ _ (ne_off (by decide))).trans h.c6, (World.cell?_setCell_other _ _ _ _ (ne_off (by decide))).trans h.c7, fun j => by simpa using h.fz j⟩
theorem Bx.s5 {w : World} {g : Nat} {x0 x1 x2 x3 x4 x5 x6 x7 : Value} (h : Bx w g x0 x1 x2 x3 x4 x5 x6 x7) (v : Value) : Bx (w.setCell ⟨g, 5, none⟩ v) g x0 x1 x2 x3 x4 v x6 x7 :=
  ⟨(World.cell?_setCell_other _ _ _ _ (ne_off (by decide))).trans h.c0, (World.cell?_setCell_other _ _ _ _ (ne_off (by decide))).trans h.c1, (World.cell?_setCell_other _ _ _ _ (ne_off (by decide))).trans h.c2, (World.cell?_setCell_other _ _ _ _ (ne_off (by decide))).trans h.c3, (World.cell?_setCell_other _ _ _ _ (ne_off (by decide))).trans h.c4, World.cell?_setCell_same _ _ _ h.c5, (World.cell?_setCell_other _ _ _ _ (ne_off (by decide))).trans h.c6, (World.cell?_setCell_other _ _ _ _ (ne_off (by decide))).trans h.c7, fun j => by simpa using h.fz j⟩
theorem Bx.s6 {w : World} {g : Nat} {x0 x1 x2 x3 x4 x5 x6 x7 : Value} (h : Bx w g x0 x1 x2 x3 x4 x5 x6 x7) (v : Value) : Bx (w.setCell ⟨g, 6, none⟩ v) g x0 x1 x2 x3 x4 x5 v x7 :=
  ⟨(World.cell?_setCell_other _ _ _ _ (ne_off (by decide))).trans h.c0, (World.cell?_setCell_other _ _ _ _ (ne_off (by decide))).trans h.c1, (World.cell?_setCell_other _ _ _ _ (ne_off (by decide))).trans h.c2, (World.cell?_setCell_other _ _ _ _ (ne_off (by decide))).trans h.c3, (World.cell?_setCell_other _ _ _ _ (ne_off (by decide))).trans h.c4, (World.cell?_setCell_other _ _ _ _ (ne_off (by decide))).trans h.c5, World.cell?_setCell_same _ _ _ h.c6, (World.cell?_setCell_other _ _ _ _ (ne_off (by decide))).trans h.c7, fun j => by simpa using h.fz j⟩
theorem Bx.s7 {w : World} {g : Nat} {x0 x1 x2 x3 x4 x5 x6 x7 : Value} (h : Bx w g x0 x1 x2 x3 x4 x5 x6 x7) (v : Value) : Bx (w.setCell ⟨g, 7, none⟩ v) g x0 x1 x2 x3 x4 x5 x6 v :=
  ⟨(World.cell?_setCell_other _ _ _ _ (ne_off (by decide))).trans h.c0, (World.cell?_setCell_other _ _ _ _ (ne_off (by decide))).trans h.c1, (World.cell?_setCell_other _ _ _ _ (ne_off (by decide))).trans h.c2, (World.cell?_setCell_other _ _ _ _ (ne_off (by decide))).trans h.c3, (World.cell?_setCell_other _ _ _ _ (ne_off (by decide))).trans h.c4, (World.cell?_setCell_other _ _ _ _ (ne_off (by decide))).trans h.c5, (World.cell?_setCell_other _ _ _ _ (ne_off (by decide))).trans h.c6, World.cell?_setCell_same _ _ _ h.c7, fun j => by simpa using h.fz j⟩
theorem Bx.set8 {w : World} {g : Nat} {x0 x1 x2 x3 x4 x5 x6 x7 : Value} (h : Bx w g x0 x1 x2 x3 x4 x5 x6 x7) (y0 y1 y2 y3 y4 y5 y6 y7 : Value) : Bx ((((((((w.setCell ⟨g, 0, none⟩ y0).setCell ⟨g, 1, none⟩ y1).setCell ⟨g, 2, none⟩ y2).setCell ⟨g, 3, none⟩ y3).setCell ⟨g, 4, none⟩ y4).setCell ⟨g, 5, none⟩ y5).setCell ⟨g, 6, none⟩ y6).setCell ⟨g, 7, none⟩ y7) g y0 y1 y2 y3 y4 y5 y6 y7 :=
  ((((((((h.s0 y0).s1 y1).s2 y2).s3 y3).s4 y4).s5 y5).s6 y6).s7 y7)
theorem Tcs.set8 {S : Nat → Prop} {a w : World} (h : Tcs S a w) (g : Nat) (hg : S g) (x0 x1 x2 x3 x4 x5 x6 x7 : Value) :
    Tcs S a ((((((((w.setCell ⟨g, 0, none⟩ x0).setCell ⟨g, 1, none⟩ x1).setCell ⟨g, 2, none⟩ x2).setCell ⟨g, 3, none⟩ x3).setCell ⟨g, 4, none⟩ x4).setCell ⟨g, 5, none⟩ x5).setCell ⟨g, 6, none⟩ x6).setCell ⟨g, 7, none⟩ x7) :=
  (((((((h.setCell hg _).setCell hg _).setCell hg _).setCell hg _).setCell hg _).setCell hg _).setCell hg _).setCell hg _
theorem Tcs.new8 {S : Nat → Prop} {a w : World} (h : Tcs S a w) (g : Nat) (hg : a.heap.size ≤ g) (x0 x1 x2 x3 x4 x5 x6 x7 : Value) :
    Tcs S a ((((((((w.setCell ⟨g, 0, none⟩ x0).setCell ⟨g, 1, none⟩ x1).setCell ⟨g, 2, none⟩ x2).setCell ⟨g, 3, none⟩ x3).setCell ⟨g, 4, none⟩ x4).setCell ⟨g, 5, none⟩ x5).setCell ⟨g, 6, none⟩ x6).setCell ⟨g, 7, none⟩ x7) :=
  (((((((h.setNew hg _).setNew hg _).setNew hg _).setNew hg _).setNew hg _).setNew hg _).setNew hg _).setNew hg _
theorem Tcs.grown {S : Nat → Prop} {a w w' : World} {row : Option Nat} (h : Tcs S a w) (hg : w.grownBy w' row) (hr : ∀ k, row = some k → a.heap.size ≤ k ∨ S k) : Tcs S a w' :=
  ⟨hg.os.trans h.os, hg.tape.trans h.tape, hg.output.trans h.output, Nat.le_trans h.size hg.size, fun k hk hn => (hg.block k (Nat.lt_of_lt_of_le hk h.size) (fun e => by rcases hr k e.symm with h1 | h1; omega; exact hn h1)).trans (h.block k hk hn)⟩
/-- Nothing but new blocks: as 'Below' has it. -/
theorem Tcs.is_below {a w : World} (h : Tcs (fun _ => False) a w) : Below a.heap.size a w := ⟨h.os, h.tape, h.output, h.size, fun k hk => h.block k hk (fun f => f)⟩
theorem Below.tcs {a w : World} {S : Nat → Prop} (h : Below a.heap.size a w) : Tcs S a w := ⟨h.os, h.tape, h.output, h.size, fun k hk _ => h.block k hk⟩
end Go.Proofs.YtabjcodpagjbjaaGreat

namespace Go.Proofs.YtabjcodpagjbjaaGreat
open Go.RowKit
set_option linter.unusedVariables false
set_option linter.unusedSimpArgs false

/-- A machine: what its lists and numbers hold. -/
structure Mc where
  regs : List Int
  pc : Int
  data : List Int
  stack : List Int
  inn : List Int
  out : List Int
  low : Int
  st : Int
def zeroM : Mc := ⟨[], 0, [], [], [], [], 0, 0⟩
def regs0 : List Int := (List.replicate 32 0).set 2 1073741824
def bootM (n : Nat) (d b : Int) (zs : List Int) : Mc := if vimg n d b && okIn zs then ⟨regs0, 4096, List.replicate d.toNat 0, List.replicate b.toNat 0, zs, [], 1073741824, 0⟩ else zeroM
def obk : Value → List Nat
  | .slice (some a) _ _ => [a.block]
  | _ => []
/-- A slice is no longer than its capacity. -/
def capOk : Value → Prop
  | .slice _ n c => n ≤ c
  | _ => True
theorem own_cap {W : World} {B e n : Nat} {v : Value} {xs : List Value} (h : W.ownsRow B e 1 v n xs) : capOk v := by
  rcases h.2 with ⟨rfl, h0⟩ | ⟨g, cap, cur, rfl, hbg, hg, hnc, hcm, hcs, htake⟩
  · exact Nat.le_refl _
  · exact hnc
/-- A machine's value in memory, in blocks of its own from B on. -/
def CpuAt (w : World) (B : Nat) (v : Value) (c : Mc) : Prop :=
  ∃ r d s i o, v = .agg #[r, .int .u32 c.pc, d, s, i, o, .int .u32 c.low, .int .i64 c.st] ∧ Lis .u32 w r c.regs ∧ Lis .u8 w d c.data ∧ Lis .u8 w s c.stack ∧ Lis .i64 w i c.inn ∧
    w.ownsRow B 2 1 o c.out.length (c.out.map (Value.int .i64)) ∧ (blk r ++ blk d ++ blk s ++ blk i ++ obk o).Nodup ∧ (∀ g ∈ blk r ++ blk d ++ blk s ++ blk i ++ obk o, B ≤ g) ∧ capOk d ∧ capOk s ∧ capOk i

theorem lis_made {k : IntKind} {e : TypeId} {W : World} {g n : Nat} (h : W.heap[g]? = some (.cells (madeCells #[.int k 0] n) e)) : Lis k W (.slice (some ⟨g, 0, none⟩) n n) (List.replicate n 0) := by
  refine ⟨_, n, by simp, fun _ => ⟨g, 0, rfl, (Array.getElem?_eq_some_iff.mp h).1, fun j hj => ?_, fun j => ?_⟩⟩
  · simp only [List.length_replicate] at hj
    simp [World.cell?, h, madeCells, hj, Nat.mod_one]
  · simp [World.frozen?, h]

theorem len_cons {n : Nat} {l : List Value} (h : l.length = n + 1) : ∃ x xs, l = x :: xs ∧ xs.length = n := by
  cases l with
  | nil => simp at h
  | cons x xs => exact ⟨x, xs, rfl, by simpa using h⟩
theorem arr29 (a : Array Value) (h : a.size = 29) : ∃ t0 t1 t2 t3 t4 t5 t6 t7 t8 t9 t10 t11 t12 t13 t14 t15 t16 t17 t18 t19 t20 t21 t22 t23 t24 t25 t26 t27 t28, a = #[t0, t1, t2, t3, t4, t5, t6, t7, t8, t9, t10, t11, t12, t13, t14, t15, t16, t17, t18, t19, t20, t21, t22, t23, t24, t25, t26, t27, t28] := by
  obtain ⟨l⟩ := a
  simp only [List.size_toArray] at h
  obtain ⟨t0, l0, rfl, h0⟩ := len_cons h
  obtain ⟨t1, l1, rfl, h1⟩ := len_cons h0
  obtain ⟨t2, l2, rfl, h2⟩ := len_cons h1
  obtain ⟨t3, l3, rfl, h3⟩ := len_cons h2
  obtain ⟨t4, l4, rfl, h4⟩ := len_cons h3
  obtain ⟨t5, l5, rfl, h5⟩ := len_cons h4
  obtain ⟨t6, l6, rfl, h6⟩ := len_cons h5
  obtain ⟨t7, l7, rfl, h7⟩ := len_cons h6
  obtain ⟨t8, l8, rfl, h8⟩ := len_cons h7
  obtain ⟨t9, l9, rfl, h9⟩ := len_cons h8
  obtain ⟨t10, l10, rfl, h10⟩ := len_cons h9
  obtain ⟨t11, l11, rfl, h11⟩ := len_cons h10
  obtain ⟨t12, l12, rfl, h12⟩ := len_cons h11
  obtain ⟨t13, l13, rfl, h13⟩ := len_cons h12
  obtain ⟨t14, l14, rfl, h14⟩ := len_cons h13
  obtain ⟨t15, l15, rfl, h15⟩ := len_cons h14
  obtain ⟨t16, l16, rfl, h16⟩ := len_cons h15
  obtain ⟨t17, l17, rfl, h17⟩ := len_cons h16
  obtain ⟨t18, l18, rfl, h18⟩ := len_cons h17
  obtain ⟨t19, l19, rfl, h19⟩ := len_cons h18
  obtain ⟨t20, l20, rfl, h20⟩ := len_cons h19
  obtain ⟨t21, l21, rfl, h21⟩ := len_cons h20
  obtain ⟨t22, l22, rfl, h22⟩ := len_cons h21
  obtain ⟨t23, l23, rfl, h23⟩ := len_cons h22
  obtain ⟨t24, l24, rfl, h24⟩ := len_cons h23
  obtain ⟨t25, l25, rfl, h25⟩ := len_cons h24
  obtain ⟨t26, l26, rfl, h26⟩ := len_cons h25
  obtain ⟨t27, l27, rfl, h27⟩ := len_cons h26
  obtain ⟨t28, l28, rfl, h28⟩ := len_cons h27
  obtain rfl : l28 = [] := List.eq_nil_of_length_eq_zero h28
  exact ⟨t0, t1, t2, t3, t4, t5, t6, t7, t8, t9, t10, t11, t12, t13, t14, t15, t16, t17, t18, t19, t20, t21, t22, t23, t24, t25, t26, t27, t28, rfl⟩
theorem own_below {W W' : World} {B e size n : Nat} {v : Value} {xs : List Value} (h : W.ownsRow B e size v n xs) (hb : Below W.heap.size W W') : W'.ownsRow B e size v n xs := by
  refine ⟨h.1, h.2.imp id ?_⟩
  rintro ⟨g, cap, cur, h1, h2, h3, h4⟩
  exact ⟨g, cap, cur, h1, h2, (hb.block g (Array.getElem?_eq_some_iff.mp h3).1).trans h3, h4⟩
theorem own_mono {W : World} {B B' e size n : Nat} {v : Value} {xs : List Value} (h : W.ownsRow B e size v n xs) (hb : B' ≤ B) : W.ownsRow B' e size v n xs := by
  refine ⟨h.1, h.2.imp id ?_⟩
  rintro ⟨g, cap, cur, h1, h2, h4⟩
  exact ⟨g, cap, cur, h1, Nat.le_trans hb h2, h4⟩
theorem own_type {W : World} {B e size n g t : Nat} {v : Value} {xs : List Value} {cur : Array Value} (h : W.ownsRow B e size v n xs) (hg : g ∈ obk v) (hb : W.heap[g]? = some (.cells cur t)) : t = e := by
  rcases h.2 with ⟨rfl, _⟩ | ⟨g', cap, cur', rfl, _, h3, _⟩
  · simp [obk] at hg
  · simp only [obk, List.mem_singleton] at hg
    subst hg
    rw [h3] at hb
    simp at hb
    exact hb.2.symm
theorem own_obk {W : World} {B e size n : Nat} {v : Value} {xs : List Value} (h : W.ownsRow B e size v n xs) : (obk v).Nodup ∧ ∀ g ∈ obk v, B ≤ g ∧ g < W.heap.size := by
  rcases h.2 with ⟨rfl, _⟩ | ⟨g', cap, cur', rfl, h2, h3, _⟩
  · simp [obk]
  · refine ⟨by simp [obk], fun g hg => ?_⟩
    simp only [obk, List.mem_singleton] at hg
    subst hg
    exact ⟨h2, (Array.getElem?_eq_some_iff.mp h3).1⟩
theorem blk_obk {v : Value} {g : Nat} (h : g ∈ blk v) : g ∈ obk v := by
  unfold blk at h
  split at h
  · simpa [obk] using h
  · simp at h
theorem Row.set {k : IntKind} {W : World} {g off i : Nat} {zs : List Int} {z : Int} (h : Row k W g off zs) (hi : i < zs.length) : Row k (W.setCell ⟨g, off + i, none⟩ (.int k z)) g off (zs.set i z) := by
  refine ⟨by simpa using h.lt, fun j hj => ?_, fun j => ?_⟩
  · simp only [List.length_set] at hj
    by_cases hji : i = j
    · subst hji
      rw [World.cell?_setCell_same _ _ _ (h.cell i hi)]
      simp [List.getD, hi]
    · rw [World.cell?_setCell_other _ _ _ _ (by intro e; simp only [Addr.mk.injEq] at e; omega), h.cell j hj]
      simp [List.getD, List.getElem?_set_ne hji]
  · simpa using h.froz j

theorem boot_close {w W : World} {g1 g2 g3 g5 q B : Nat} {n2 n3 : Nat} {vi : Value} {zs : List Int} (x0 x1 x2 x3 x4 x5 x6 x7 y0 y1 y2 y3 y4 y5 y6 y7 : Value)
    (L1 : Lis .u32 W (.slice (some ⟨g1, 0, none⟩) 32 32) (List.replicate 32 0)) (L2 : Lis .u8 W (.slice (some ⟨g2, 0, none⟩) n2 n2) (List.replicate n2 0)) (L3 : Lis .u8 W (.slice (some ⟨g3, 0, none⟩) n3 n3) (List.replicate n3 0))
    (b4 : W.ownsRow B 2 1 vi zs.length (zs.map (Value.int .i64))) (hnd : ([g1, g2, g3] ++ obk vi).Nodup) (hbd : ∀ g ∈ [g1, g2, g3] ++ obk vi, B ≤ g ∧ g < W.heap.size)
    (m1 : ¬ g1 = g5) (m2 : ¬ g2 = g5) (m3 : ¬ g3 = g5) (m4 : g5 ∉ obk vi) (hq : q < B) (hwq : w.heap.size ≤ q) (h5 : B ≤ g5) (BW : Below w.heap.size w W) :
    CpuAt (((((((((((((((((W.setCell ⟨g5, 0, none⟩ x0).setCell ⟨g5, 1, none⟩ x1).setCell ⟨g5, 2, none⟩ x2).setCell ⟨g5, 3, none⟩ x3).setCell ⟨g5, 4, none⟩ x4).setCell ⟨g5, 5, none⟩ x5).setCell ⟨g5, 6, none⟩ x6).setCell ⟨g5, 7, none⟩ x7).setCell ⟨g1, 2, none⟩ (.int .u32 1073741824)).setCell ⟨q, 0, none⟩ y0).setCell ⟨q, 1, none⟩ y1).setCell ⟨q, 2, none⟩ y2).setCell ⟨q, 3, none⟩ y3).setCell ⟨q, 4, none⟩ y4).setCell ⟨q, 5, none⟩ y5).setCell ⟨q, 6, none⟩ y6).setCell ⟨q, 7, none⟩ y7) w.heap.size (.agg #[.slice (some ⟨g1, 0, none⟩) 32 32, .int .u32 4096, .slice (some ⟨g2, 0, none⟩) n2 n2, .slice (some ⟨g3, 0, none⟩) n3 n3, vi, .slice none 0 0, .int .u32 1073741824, .int .i64 0]) ⟨regs0, 4096, List.replicate n2 0, List.replicate n3 0, zs, [], 1073741824, 0⟩ ∧ Below w.heap.size w (((((((((((((((((W.setCell ⟨g5, 0, none⟩ x0).setCell ⟨g5, 1, none⟩ x1).setCell ⟨g5, 2, none⟩ x2).setCell ⟨g5, 3, none⟩ x3).setCell ⟨g5, 4, none⟩ x4).setCell ⟨g5, 5, none⟩ x5).setCell ⟨g5, 6, none⟩ x6).setCell ⟨g5, 7, none⟩ x7).setCell ⟨g1, 2, none⟩ (.int .u32 1073741824)).setCell ⟨q, 0, none⟩ y0).setCell ⟨q, 1, none⟩ y1).setCell ⟨q, 2, none⟩ y2).setCell ⟨q, 3, none⟩ y3).setCell ⟨q, 4, none⟩ y4).setCell ⟨q, 5, none⟩ y5).setCell ⟨q, 6, none⟩ y6).setCell ⟨q, 7, none⟩ y7) := by
  have hr0 : Row .u32 W g1 0 (List.replicate 32 0) := by
    obtain ⟨ar, cr, er, hr⟩ := L1
    obtain ⟨g, off, e, hR⟩ := hr (by simp)
    simp at er
    obtain ⟨rfl, _⟩ := er
    simp at e
    obtain ⟨rfl, rfl⟩ := e
    exact hR
  have TA := (Tcs.refl (fun k => k = g5) W).set8 g5 rfl x0 x1 x2 x3 x4 x5 x6 x7
  have hr8 := (hr0.keep TA.size (TA.block g1 hr0.lt m1)).set (i := 2) (z := 1073741824) (by simp)
  have TB := fun (W9 : World) => (Tcs.refl (fun k => k = q) W9).set8 q rfl y0 y1 y2 y3 y4 y5 y6 y7
  have TC := (((Tcs.refl (fun k => k = g5 ∨ k = g1 ∨ k = q) W).set8 g5 (.inl rfl) x0 x1 x2 x3 x4 x5 x6 x7).setCell (p := ⟨g1, 2, none⟩) (.inr (.inl rfl)) (.int .u32 1073741824)).set8 q (.inr (.inr rfl)) y0 y1 y2 y3 y4 y5 y6 y7
  have o1 := hbd g1 (by simp)
  have o2 := hbd g2 (by simp)
  have o3 := hbd g3 (by simp)
  have hn := hnd
  simp only [List.cons_append, List.nil_append, List.nodup_cons, List.mem_cons, not_or] at hn
  obtain ⟨⟨e12, e13, e14⟩, ⟨e23, e24⟩, e34, hno⟩ := hn
  have ob : ∀ g ∈ obk vi, B ≤ g ∧ g < W.heap.size := fun g hg => hbd g (by simp [hg])
  refine ⟨⟨_, _, _, _, _, rfl, (Lis.of_row (cap := 32) hr8).tcs (TB _) ?_, L2.tcs TC ?_, L3.tcs TC ?_, (Lis.of_own b4).1.tcs TC ?_, World.ownsRow_nil _ _ _ _, ?_, ?_, Nat.le_refl _, Nat.le_refl _, own_cap b4⟩, TC.below BW BW.size ?_⟩
  · intro g hg
    have := blk_obk hg
    simp [obk] at this
    omega
  · intro g hg
    have := blk_obk hg
    simp [obk] at this
    omega
  · intro g hg
    have := blk_obk hg
    simp [obk] at this
    omega
  · intro g hg
    have h1 := blk_obk hg
    have h2 := ob g h1
    rintro (rfl | rfl | rfl)
    · exact m4 h1
    · exact e14 h1
    · omega
  · rw [show obk (.slice none 0 0) = [] from rfl, List.append_nil]
    have hs : ∀ (a : Option Addr) (n c g : Nat), a = some ⟨g, 0, none⟩ → ∀ x ∈ blk (.slice a n c), x = g := by
      rintro a n c g rfl x hx
      have := blk_obk hx
      simpa [obk] using this
    have k1 := hs _ 32 32 g1 rfl
    have k2 := hs _ n2 n2 g2 rfl
    have k3 := hs _ n3 n3 g3 rfl
    have hnb : ∀ v : Value, (blk v).Nodup := by
      intro v
      unfold blk
      split <;> simp
    simp only [List.nodup_append, List.mem_append]
    refine ⟨⟨⟨hnb _, hnb _, fun x hx y hy => ?_⟩, hnb _, fun x hx y hy => ?_⟩, hnb _, fun x hx y hy => ?_⟩
    · rw [k1 x hx, k2 y hy]; exact e12
    · rw [k3 y hy]
      rcases hx with hx | hx
      · rw [k1 x hx]; exact e13
      · rw [k2 x hx]; exact e23
    · have hy' := blk_obk hy
      rintro rfl
      rcases hx with (hx | hx) | hx
      · rw [k1 x hx] at hy'; exact e14 hy'
      · rw [k2 x hx] at hy'; exact e24 hy'
      · rw [k3 x hx] at hy'; exact e34 hy'
  · intro g hg
    have hwB : w.heap.size ≤ B := by omega
    rw [show obk (.slice none 0 0) = [] from rfl, List.append_nil] at hg
    simp only [List.mem_append] at hg
    rcases hg with ((hg | hg) | hg) | hg
    · have := blk_obk hg
      simp [obk] at this
      omega
    · have := blk_obk hg
      simp [obk] at this
      omega
    · have := blk_obk hg
      simp [obk] at this
      omega
    · have := ob g (blk_obk hg)
      omega
  · rintro k (rfl | rfl | rfl) <;> omega
theorem lt11 {i : Nat} (h : i < 11) : i = 0 ∨ i = 1 ∨ i = 2 ∨ i = 3 ∨ i = 4 ∨ i = 5 ∨ i = 6 ∨ i = 7 ∨ i = 8 ∨ i = 9 ∨ i = 10 := by omega
theorem blocks_keep {W W' : World} {g : Nat} {o : Obj} (h : W.heap[g]? = some o) (hb : Below W.heap.size W W') : W'.heap[g]? = some o := (hb.block g (Array.getElem?_eq_some_iff.mp h).1).trans h

end Go.Proofs.YtabjcodpagjbjaaGreat

namespace Go.Proofs.YtabjcodpagjbjaaGreat
open Go.RowKit
set_option linter.unusedVariables false
set_option linter.unusedSimpArgs false

theorem box_new {w w1 : World} {A C : Obj} (h : Below ((w.alloc A).alloc C).heap.size ((w.alloc A).alloc C) w1) : w1.heap[w.heap.size + 1]? = some C ∧ w1.heap[w.heap.size]? = some A := by
  constructor
  · rw [h.block _ (by simp)]
    have := heap_alloc_new (w.alloc A) C
    simpa only [World.size_alloc] using this
  · rw [h.block _ (by simp; omega), Below.heap_alloc _ _ _ (by simp)]
    exact heap_alloc_new w A
theorem cpu_zero (w : World) (B : Nat) : CpuAt w B (.agg #[.slice none 0 0, .int .u32 0, .slice none 0 0, .slice none 0 0, .slice none 0 0, .slice none 0 0, .int .u32 0, .int .i64 0]) zeroM :=
  ⟨_, _, _, _, _, rfl, Lis.nil _ _ _ _, Lis.nil _ _ _ _, Lis.nil _ _ _ _, Lis.nil _ _ _ _, World.ownsRow_nil _ _ _ _, by simp [obk], by simp [obk], Nat.le_refl _, Nat.le_refl _, Nat.le_refl _⟩

end Go.Proofs.YtabjcodpagjbjaaGreat

namespace Go.Proofs.YtabjcodpagjbjaaGreat
open Go.RowKit
set_option linter.unusedVariables false

/-- 'append(v, s...)': v the call's own, s a slice of numbers, nil or not. -/
theorem wpList_append_lis {P : Program} (w : World) {ops : Array Oper} {rest : List Oper} {o : Oper} {a : Act} {Q : Exit → Act → World → Prop} (hgd : o.guard = none) (s x : Operand) (t : TypeId)
    (ho : o.op = .call { callee := .builtin .append, args := #[s, x], argTypes := #[t, t] })
    (base : Nat) (e : TypeId) (i : TypeInfo) (k : IntKind) (bytes : Nat) (ht : P.underlying t = some (.slice e)) (hi : P.info? e = some i) (hz : i.zero = some (.int k 0)) (hsize : i.size = 1) (hby : i.bytes = bytes)
    (v : Value) (n : Nat) (xs : List Value) (hs : a.eval s = v) (hown : w.ownsRow base e 1 v n xs) (sv : Value) (zs : List Int) (hx : a.eval x = sv) (L : Lis k w sv zs)
    (h63 : n + zs.length ≤ maxLen) (hbytes : (n + zs.length) * bytes ≤ 140737488355328) (hbase : base ≤ w.heap.size)
    (hnil : sv = .slice none 0 0 ∨ ∃ ad m c, sv = .slice (some ad) m c)
    (h : ∀ v' w', w'.ownsRow base e 1 v' (n + zs.length) (xs ++ zs.map (Value.int k)) → w.grownBy w' v.ownBlock → wpList P ops Q rest (a.put o.dst v') w') : wpList P ops Q (o :: rest) a w := by
  obtain ⟨av, cv, rfl, hr⟩ := L
  rcases hnil with hnil | ⟨ad, m, c, hnil⟩
  · simp only [Value.slice.injEq] at hnil
    obtain ⟨rfl, h0, rfl⟩ := hnil
    obtain rfl : zs = [] := List.eq_nil_of_length_eq_zero h0
    refine wpList_append_own_none hgd s x t ho base e i 1 ht hi v n xs hs hown hx (h v w ?_ ⟨rfl, rfl, rfl, Nat.le_refl _, fun _ _ _ => rfl⟩)
    simpa using hown
  · simp only [Value.slice.injEq] at hnil
    obtain ⟨rfl, rfl, rfl⟩ := hnil
    refine wpList_append_own w hgd s x t ho base e i (.int k 0) 1 bytes ht hi hz hsize hby rfl (by decide) v n xs hs hown ad zs.length cv (zs.map (Value.int k)) hx (by simp) ?_ ?_ h63 hbytes hbase fun v' w' h1 h2 _ => h v' w' h1 h2
    · intro j u hj
      have hj' : j < zs.length := by
        have := (List.getElem?_eq_some_iff.mp hj).1
        simpa using this
      obtain ⟨g, off, e, hR⟩ := hr (by omega)
      simp only [Option.some.injEq] at e
      subst e
      rw [Addr.add_lit, hR.cell j hj']
      simp only [List.getElem?_map, Option.map_eq_some_iff] at hj
      obtain ⟨z, hz, rfl⟩ := hj
      simp [List.getD, hz]
    · intro u hu
      simp only [List.mem_map] at hu
      obtain ⟨z, _, rfl⟩ := hu
      rfl
end Go.Proofs.YtabjcodpagjbjaaGreat

namespace Go.Proofs.YtabjcodpagjbjaaGreat
open Go.RowKit
set_option linter.unusedVariables false
set_option linter.unusedSimpArgs false

theorem run_append_zeros0 {P : Program} (w : World) (t tn ty e : TypeId) (i : TypeInfo) (k kn : IntKind) (ht : P.underlying t = some (.slice e)) (htn : P.underlying tn = some (.int kn)) (hi : P.info? e = some i) :
    (Builtin.append_ #[t, tn] ty #[.slice none 0 0, .int k 0]).run P w = .ok (.slice none 0 0) w := by
  have hw : IntKind.i64.wrap (0 : Int) = 0 := by rw [IntKind.wrap_i64]; omega
  simp [Builtin.append_, run_underlying ht, run_underlying htn, sizeOf, typeInfo, hi, asInt, asIntOf, hw, Question.forced]

/-- 'append(nil, make([]T, n)...)'. -/
theorem run_append_zeros {P : Program} (w : World) (t tn ty e : TypeId) (i : TypeInfo) (k kq kn : IntKind) (ht : P.underlying t = some (.slice e)) (htn : P.underlying tn = some (.int kn)) (hi : P.info? e = some i)
    (hz : i.zero = some (.int k 0)) (hs : i.size = 1) (hb : i.bytes ≤ 8) (d : Int) (h0 : 0 ≤ d) (hd : d ≤ 1000000) :
    ∃ v' w', (Builtin.append_ #[t, tn] ty #[.slice none 0 0, .int kq d]).run P w = .ok v' w' ∧ w'.ownsRow w.heap.size e 1 v' d.toNat (List.replicate d.toNat (.int k 0)) ∧ w.grownBy w' none := by
  obtain ⟨n, rfl⟩ : ∃ n : Nat, d = n := ⟨d.toNat, by omega⟩
  simp only [Int.toNat_natCast]
  by_cases hn : n = 0
  · subst hn
    exact ⟨_, _, run_append_zeros0 w t tn ty e i kq kn ht htn hi, World.ownsRow_nil _ _ _ _, ⟨rfl, rfl, rfl, Nat.le_refl _, fun _ _ _ => rfl⟩⟩
  · have hr := Lib.run_append_nil_zeros (P := P) w t tn ty e i (.int k 0) kq kn ht htn hi hz n (by omega) (by omega) (by omega) (by have : n * i.bytes ≤ 1000000 * 8 := Nat.mul_le_mul (by omega) hb; omega)
    have hge := grownCap_ge w n 0 e
    have hzc : ∀ m, (Builtin.zeroCells (Value.cells (.int k 0)) m).toList = List.replicate m (.int k 0) := by
      intro m
      have e1 : (Value.int k 0).cells = #[Value.int k 0] := rfl
      rw [e1]
      apply List.ext_getElem?
      intro j
      by_cases hj : j < m
      · simp [Builtin.zeroCells, hj, Nat.mod_one]
      · simp [Builtin.zeroCells, hj]
    refine ⟨_, _, hr, ⟨by simp, .inr ⟨w.heap.size, _, _, rfl, Nat.le_refl _, heap_alloc_new w.drew _, hge, grownCap_le_maxLen w n 0 e (by unfold maxLen; omega), ?_, ?_⟩⟩, ⟨rfl, rfl, rfl, by simp, fun k hk _ => Below.heap_alloc w.drew _ k hk⟩⟩
    · rw [← Array.length_toList, Array.toList_append, hzc, hzc]
      simp
      omega
    · rw [Array.toList_append, hzc, hzc, Nat.mul_one]
      simp
end Go.Proofs.YtabjcodpagjbjaaGreat

namespace Go.Proofs.YtabjcodpagjbjaaGreat
open Go.RowKit
set_option linter.unusedVariables false
set_option linter.unusedSimpArgs false

theorem own_lit_ge {B g n c : Nat} (h : B ≤ g) : ∀ k, Value.ownBlock (.slice (some ⟨g, 0, none⟩) n c) = some k → B ≤ k := by
  intro k hk
  cases hk
  exact h
theorem own_lit_ne {B g n c : Nat} (h : B ≠ g) : some B ≠ Value.ownBlock (.slice (some ⟨g, 0, none⟩) n c) := by
  intro e
  cases e
  exact h rfl
theorem one_new (w : World) (v : Value) (t : TypeId) (j : Nat) (u : Value) (hj : [v][j]? = some u) : (w.alloc (.cells #[v] t)).cell? ((⟨w.heap.size, 0, none⟩ : Addr).add j) = some u := by
  cases j with
  | zero =>
    simp at hj
    subst hj
    simp [Addr.add_lit]
  | succ j => simp at hj
theorem row_ne {W : World} {B e size n g : Nat} {v : Value} {xs : List Value} (h : W.ownsRow B e size v n xs) (hg : g < B) : some g ≠ v.ownBlock := fun e => by have := (h.lt g e.symm).1; omega
theorem own_slice {W : World} {B e size n : Nat} {v : Value} {xs : List Value} (h : W.ownsRow B e size v n xs) : ∃ a c, v = .slice a n c := by
  rcases h.2 with ⟨rfl, rfl⟩ | ⟨g, cap, cur, rfl, _⟩
  · exact ⟨_, _, rfl⟩
  · exact ⟨_, _, rfl⟩
theorem own_some {W : World} {B e size n : Nat} {v : Value} {xs : List Value} (h : W.ownsRow B e size v n xs) (hn : 0 < n) : ∃ g c, v = .slice (some ⟨g, 0, none⟩) n c := by
  rcases h.2 with ⟨rfl, rfl⟩ | ⟨g, cap, cur, rfl, _⟩
  · omega
  · exact ⟨_, _, rfl⟩
theorem own_block {W : World} {B e size n : Nat} {v : Value} {xs : List Value} (h : W.ownsRow B e size v n xs) : ∀ k, v.ownBlock = some k → B ≤ k := fun k hk => (h.lt k hk).1
/-- An own row stays where its block is not touched. -/
theorem own_tcs {S : Nat → Prop} {W W' : World} {B e size n : Nat} {v : Value} {xs : List Value} (h : W.ownsRow B e size v n xs) (ht : Tcs S W W') (hn : ∀ g ∈ obk v, ¬ S g) : W'.ownsRow B e size v n xs := by
  refine ⟨h.1, h.2.imp id ?_⟩
  rintro ⟨g, cap, cur, rfl, h2, h3, h4⟩
  exact ⟨g, cap, cur, rfl, h2, (ht.block g (Array.getElem?_eq_some_iff.mp h3).1 (hn g (by simp [obk]))).trans h3, h4⟩

theorem boot_close_s {w w1 wr w6 w7 : World} {gr cb cr : Nat} {n2 n3 : Nat} {v6 v7 v1 : Value} {zs : List Int} {y0 y1 y2 y3 y4 y5 y6 y7 x2 x3 : Value}
    (hst : (wr.setCell ⟨gr, 2, none⟩ (.int .u32 1073741824)).ownsRow (cb + 1) 25 1 (.slice (some ⟨gr, 0, none⟩) 32 cr) 32 ((List.replicate 32 (.int .u32 0)).set 2 (.int .u32 1073741824)))
    (hown6 : w6.ownsRow wr.heap.size 5 1 v6 n2 (List.replicate n2 (.int .u8 0))) (hown7 : w7.ownsRow w6.heap.size 5 1 v7 n3 (List.replicate n3 (.int .u8 0)))
    (hown1 : wr.ownsRow w1.heap.size 2 1 v1 zs.length (zs.map (Value.int .i64))) (hgr : cb + 1 ≤ gr) (hg6 : (wr.setCell ⟨gr, 2, none⟩ (.int .u32 1073741824)).grownBy w6 none) (hg7 : (w6.setCell ⟨cb, 2, none⟩ x2).grownBy w7 none)
    (hcb : w1.heap.size ≤ cb) (hcb2 : cb < wr.heap.size) (s1 : w.heap.size + 1 + 1 ≤ w1.heap.size) (BW : Below w.heap.size w wr) (hgr2 : gr < wr.heap.size) (hlow : ∀ g ∈ obk v1, g < cb) :
    CpuAt (((((((((w7.setCell ⟨cb, 3, none⟩ x3).setCell ⟨w.heap.size + 1, 0, none⟩ y0).setCell ⟨w.heap.size + 1, 1, none⟩ y1).setCell ⟨w.heap.size + 1, 2, none⟩ y2).setCell ⟨w.heap.size + 1, 3, none⟩ y3).setCell ⟨w.heap.size + 1, 4, none⟩ y4).setCell ⟨w.heap.size + 1, 5, none⟩ y5).setCell ⟨w.heap.size + 1, 6, none⟩ y6).setCell ⟨w.heap.size + 1, 7, none⟩ y7) w.heap.size (.agg #[.slice (some ⟨gr, 0, none⟩) 32 cr, .int .u32 4096, v6, v7, v1, .slice none 0 0, .int .u32 1073741824, .int .i64 0]) ⟨regs0, 4096, List.replicate n2 0, List.replicate n3 0, zs, [], 1073741824, 0⟩ ∧ Below w.heap.size w (((((((((w7.setCell ⟨cb, 3, none⟩ x3).setCell ⟨w.heap.size + 1, 0, none⟩ y0).setCell ⟨w.heap.size + 1, 1, none⟩ y1).setCell ⟨w.heap.size + 1, 2, none⟩ y2).setCell ⟨w.heap.size + 1, 3, none⟩ y3).setCell ⟨w.heap.size + 1, 4, none⟩ y4).setCell ⟨w.heap.size + 1, 5, none⟩ y5).setCell ⟨w.heap.size + 1, 6, none⟩ y6).setCell ⟨w.heap.size + 1, 7, none⟩ y7) := by
  have T7 := ((Tcs.refl (fun k => k = cb ∨ k = w.heap.size + 1) w7).setCell (p := ⟨cb, 3, none⟩) (.inl rfl) x3).set8 (w.heap.size + 1) (.inr rfl) y0 y1 y2 y3 y4 y5 y6 y7
  have T6 := ((Tcs.refl (fun k => k = cb ∨ k = w.heap.size + 1) w6).setCell (p := ⟨cb, 2, none⟩) (.inl rfl) x2).grown hg7 (by simp) |>.trans T7
  have T5 := (Tcs.refl (fun k => k = cb ∨ k = w.heap.size + 1) (wr.setCell ⟨gr, 2, none⟩ (.int .u32 1073741824))).grown hg6 (by simp) |>.trans T6
  have TT := (Tcs.refl (fun k => k = gr) wr).setCell (p := ⟨gr, 2, none⟩) rfl (.int .u32 1073741824)
  have TW := ((Tcs.refl (fun k => k = gr ∨ k = cb ∨ k = w.heap.size + 1) wr).setCell (p := ⟨gr, 2, none⟩) (.inl rfl) (.int .u32 1073741824)).trans (T5.mono fun k hk => .inr hk)
  have s6 : wr.heap.size ≤ w6.heap.size := by have := hg6.size; simpa using this
  have s7 : w6.heap.size ≤ w7.heap.size := by have := hg7.size; simpa using this
  have q6 := own_obk hown6
  have q7 := own_obk hown7
  have q1 := own_obk hown1
  have Lr : Lis .u32 _ (.slice (some ⟨gr, 0, none⟩) 32 cr) regs0 := (Lis.of_own (k := .u32) (zs := regs0) (by rw [show regs0.map (Value.int .u32) = (List.replicate 32 (.int .u32 0)).set 2 (.int .u32 1073741824) from rfl]; exact hst)).1.tcs T5 (by
    intro g hg
    have := blk_obk hg
    simp [obk] at this
    omega)
  have L6 : Lis .u8 _ v6 (List.replicate n2 0) := (Lis.of_own (k := .u8) (by rw [List.map_replicate]; exact hown6)).1.tcs T6 (by
    intro g hg
    have := q6.2 g (blk_obk hg)
    omega)
  have L7 : Lis .u8 _ v7 (List.replicate n3 0) := (Lis.of_own (k := .u8) (by rw [List.map_replicate]; exact hown7)).1.tcs T7 (by
    intro g hg
    have := q7.2 g (blk_obk hg)
    omega)
  have L1 : Lis .i64 _ v1 zs := (Lis.of_own hown1).1.tcs TW (by
    intro g hg
    have h1 := q1.2 g (blk_obk hg)
    have h2 := hlow g (blk_obk hg)
    omega)
  have hnb : ∀ v : Value, (blk v).Nodup := by
    intro v
    unfold blk
    split <;> simp
  have kr : ∀ x ∈ blk (.slice (some ⟨gr, 0, none⟩) 32 cr), x = gr := fun x hx => by
    have := blk_obk hx
    simpa [obk] using this
  refine ⟨⟨_, _, _, _, _, rfl, Lr, L6, L7, L1, World.ownsRow_nil _ _ _ _, ?_, ?_, own_cap hown6, own_cap hown7, own_cap hown1⟩, TW.below BW BW.size ?_⟩
  · rw [show obk (.slice none 0 0) = [] from rfl, List.append_nil]
    simp only [List.nodup_append, List.mem_append]
    refine ⟨⟨⟨hnb _, hnb _, fun x hx y hy => ?_⟩, hnb _, fun x hx y hy => ?_⟩, hnb _, fun x hx y hy => ?_⟩
    · have h1 := kr x hx
      have h2 := q6.2 y (blk_obk hy)
      omega
    · have h2 := q7.2 y (blk_obk hy)
      rcases hx with hx | hx
      · have h1 := kr x hx
        omega
      · have h1 := q6.2 x (blk_obk hx)
        omega
    · have h2 := hlow y (blk_obk hy)
      rcases hx with (hx | hx) | hx
      · have h1 := kr x hx
        omega
      · have h1 := q6.2 x (blk_obk hx)
        omega
      · have h1 := q7.2 x (blk_obk hx)
        omega
  · intro g hg
    rw [show obk (.slice none 0 0) = [] from rfl, List.append_nil] at hg
    simp only [List.mem_append] at hg
    rcases hg with ((hg | hg) | hg) | hg
    · have h1 := kr g hg
      omega
    · have h1 := q6.2 g (blk_obk hg)
      omega
    · have h1 := q7.2 g (blk_obk hg)
      omega
    · have h1 := q1.2 g (blk_obk hg)
      omega
  · rintro k (rfl | rfl | rfl) <;> omega
end Go.Proofs.YtabjcodpagjbjaaGreat

namespace Go.Proofs.YtabjcodpagjbjaaGreat
open Go.RowKit
set_option linter.unusedVariables false
set_option linter.unusedSimpArgs false

end Go.Proofs.YtabjcodpagjbjaaGreat
