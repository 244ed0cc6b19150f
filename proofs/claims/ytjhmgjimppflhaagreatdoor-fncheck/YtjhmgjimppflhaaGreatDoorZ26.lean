import Derived.WalkKit
import Derived.ProofKit
import Derived.Orders
import Derived.Test.YtjhmgjimppflhaaGreatDoorZ25
import Derived.Deep.Cut
import Derived.Deep.CutRange
namespace Go.Proofs.YtjhmgjimppflhaaGreatDoor
set_option linter.unusedVariables false
set_option linter.unusedSimpArgs false
set_option maxRecDepth 100000
set_option maxHeartbeats 16000000
section
open Go.RowKit
/-- How many have not come up yet. -/
def unl (listed : Array Bool) : Nat := listed.toList.countP (fun b => !b)
theorem unl_set {listed : Array Bool} {i : Nat} (h : listed.getD i true = false) : unl (listed.setIfInBounds i true) + 1 = unl listed := by
  have hi : i < listed.size := by
    by_cases hlt : i < listed.size
    · exact hlt
    · simp [Array.getD, hlt] at h
  have hv : listed[i] = false := by simpa [Array.getD, hi] using h
  unfold unl
  have e : (listed.setIfInBounds i true).toList = listed.toList.set i true := by simp
  rw [e, List.countP_set (by simpa using hi)]
  have hp : 0 < listed.toList.countP (fun b => !b) := by
    rw [List.countP_pos_iff]
    exact ⟨listed[i], by simp, by simp [hv]⟩
  simp only [Array.getElem_toList, hv, Bool.not_false, Bool.not_true, if_true, Bool.false_eq_true, if_false]
  omega
theorem ready_of_unl {md : Region.Mode} {ops : Array Oper} {listed : Array Bool} (h : unl listed = 0) : Region.ready md ops listed = [] := by
  rw [List.eq_nil_iff_forall_not_mem]
  intro i hi
  have := unl_set (mem_ready.1 hi).1
  omega
theorem unl_replicate (n : Nat) : unl (Array.replicate n false) = n := by simp [unl, List.countP_replicate]
/-- A region in whatever order, by a condition on who has come up, the frame and the world. -/
theorem wpAny_inv {P : Program} {md : Region.Mode} {ops : Array Oper} {Q : Exit → Act → World → Prop} (I : Array Bool → Act → World → Prop)
    (step : ∀ listed a w, I listed a w → ∀ i ∈ Region.ready md ops listed, wpOp P ops Q i (I (listed.setIfInBounds i true)) a w)
    (fin : ∀ listed a w, I listed a w → Region.ready md ops listed = [] → Q .normal a w) :
    ∀ (fuel : Nat) (listed : Array Bool) (a : Act) (w : World), unl listed ≤ fuel → I listed a w → wpAny P md ops Q fuel listed a w
  | 0, listed, a, w, hu, hI => by
    have hr := ready_of_unl (md := md) (ops := ops) (listed := listed) (by omega)
    exact ⟨hr, fin listed a w hI hr⟩
  | fuel + 1, listed, a, w, hu, hI =>
    ⟨fun hr => fin listed a w hI hr, fun i hi => wpOp_mono (fun a' w' h' => wpAny_inv I step fin fuel _ a' w' (by have := unl_set (mem_ready.1 hi).1; omega) h') (step listed a w hI i hi)⟩
theorem wp_region_inv {P : Program} {id : Nat} {ops : Array Oper} {Q : Exit → Act → World → Prop} {a : Act} {w : World} (hm : P.follows .mixedOrders = true) (I : Array Bool → Act → World → Prop)
    (step : ∀ listed a w, I listed a w → ∀ i ∈ Region.ready .any ops listed, wpOp P ops Q i (I (listed.setIfInBounds i true)) a w)
    (fin : ∀ listed a w, I listed a w → Region.ready .any ops listed = [] → Q .normal a w) (h0 : I (Array.replicate ops.size false) a w.drew) : (Code.region id ops true).wp P Q a w :=
  wp_region_any hm (wpAny_inv I step fin ops.size _ a _ (by rw [unl_replicate]; exact Nat.le_refl _) h0)
theorem nodup_mid {A B C : List Nat} {n : Nat} (h : (A ++ B).Nodup) (hlt : ∀ x ∈ A ++ B, x < n) (hc : C.Nodup) (hge : ∀ x ∈ C, n ≤ x) : (A ++ C ++ B).Nodup := by
  simp only [List.nodup_append, List.mem_append] at *
  refine ⟨⟨h.1, hc, fun a ha b hb => ?_⟩, h.2.1, fun a ha b hb => ?_⟩
  · have h1 := hlt a (.inl ha)
    have h2 := hge b hb
    omega
  · rcases ha with ha | ha
    · exact h.2.2 a ha b hb
    · have h1 := hlt b (.inr hb)
      have h2 := hge a ha
      omega
/-- Operations that each make a value of their own, in the order of their numbers but for the draw; the last one waits for all. -/
structure Gr (ops : Array Oper) (n : Nat) (d : Nat → Tmp) : Prop where
  size : ops.size = n + 1
  op : ∀ i, i < n → ∃ o, ops[i]? = some o ∧ o.dst = some (d i) ∧ o.guard = none ∧ ∀ e ∈ o.after, e.on < i ∧ Region.binds .any e = true
  inj : ∀ i j, i < n → j < n → d i = d j → i = j
  last : ∃ o, ops[n]? = some o ∧ o.guard = none ∧ (∀ i, i < n → ∃ e ∈ o.after, e.on = i ∧ Region.binds .any e = true) ∧ ∀ e ∈ o.after, e.on < n
theorem getD_true_of_false {l : Array Bool} {i : Nat} (h : l.getD i false = true) : l.getD i true = true := by
  by_cases hi : i < l.size
  · simp [Array.getD, hi] at h ⊢
    exact h
  · simp [Array.getD, hi]
theorem getD_false_of_true {l : Array Bool} {i : Nat} (hi : i < l.size) (h : l.getD i true = true) : l.getD i false = true := by
  simp [Array.getD, hi] at h ⊢
  exact h
theorem getD_set_self {l : Array Bool} {i : Nat} : (l.setIfInBounds i true).getD i true = true := by
  by_cases hi : i < l.size <;> simp [Array.getD, hi]
theorem getD_set_other {l : Array Bool} {i j : Nat} (h : i ≠ j) : (l.setIfInBounds i true).getD j true = l.getD j true := by
  by_cases hj : j < l.size
  · simp [Array.getD, hj, h]
  · simp [Array.getD, hj]
theorem eval_put_self {a : Act} {t : Tmp} {v : Value} (h : t < a.tmps.size) : (a.put (some t) v).eval (.tmp t) = v := by
  simp [Act.eval, Act.put, h]
theorem eval_put_other {a : Act} {t s : Tmp} {v : Value} (h : t ≠ s) : (a.put (some t) v).eval (.tmp s) = a.eval (.tmp s) :=
  Act.eval_put fun d hd he => by simp at hd he; exact h (hd.trans he.symm)
/-- What holds in the midst. -/
structure GrI (n : Nat) (d : Nat → Tmp) (R : Nat → Value → World → Prop) (O : Nat → Value → List Nat) (a0 : Act) (w0 : World) (done : Nat → Prop) (a : Act) (w : World) : Prop where
  defers : a.defers = a0.defers
  tsize : a.tmps.size = a0.tmps.size
  frame : ∀ t, (∀ j, j < n → d j ≠ t) → a.tmps[t]? = a0.tmps[t]?
  below : Below w0.heap.size w0 w
  rel : ∀ i, i < n → done i → R i (a.eval (.tmp (d i))) w
  own : ∀ i, i < n → done i → ∀ g ∈ O i (a.eval (.tmp (d i))), w0.heap.size ≤ g ∧ g < w.heap.size
  apart : ∀ i j, i < n → j < n → i ≠ j → done i → done j → ∀ g ∈ O i (a.eval (.tmp (d i))), g ∉ O j (a.eval (.tmp (d j)))
theorem GrI.step {n : Nat} {d : Nat → Tmp} {R : Nat → Value → World → Prop} {O : Nat → Value → List Nat} {a0 : Act} {w0 : World} {done done' : Nat → Prop} {a : Act} {w w' : World} {i : Nat} {v : Value}
    (stab : ∀ i v w w', R i v w → (∀ g ∈ O i v, g < w.heap.size) → Below w.heap.size w w' → R i v w')
    (inj : ∀ i j, i < n → j < n → d i = d j → i = j) (hd : ∀ j, j < n → d j < a0.tmps.size) (h : GrI n d R O a0 w0 done a w) (hi : i < n) (hdone : ∀ j, done' j → j = i ∨ done j)
    (hR : R i v w') (hB : Below w.heap.size w w') (hO : ∀ g ∈ O i v, w.heap.size ≤ g ∧ g < w'.heap.size) : GrI n d R O a0 w0 done' (a.put (some (d i)) v) w' := by
  have hs : d i < a.tmps.size := by rw [h.tsize]; exact hd i hi
  have hsz := h.below.size
  have ev : ∀ j, j < n → j ≠ i → (a.put (some (d i)) v).eval (.tmp (d j)) = a.eval (.tmp (d j)) := fun j hj hne => eval_put_other fun e => hne (inj j i hj hi e.symm)
  have evi : (a.put (some (d i)) v).eval (.tmp (d i)) = v := eval_put_self hs
  refine ⟨h.defers, by simp [Act.put]; exact h.tsize, fun t ht => ?_, h.below.trans (hB.mono hsz), fun j hj hdj => ?_, fun j hj hdj => ?_, fun j k hj hk hne hdj hdk => ?_⟩
  · rw [← h.frame t ht]
    have : d i ≠ t := ht i hi
    simp [Act.put, Array.getElem?_setIfInBounds_ne this]
  · by_cases hji : j = i
    · subst hji
      rw [evi]
      exact hR
    · rw [ev j hj hji]
      have hd' := (hdone j hdj).resolve_left hji
      exact stab j _ w w' (h.rel j hj hd') (fun g hg => (h.own j hj hd' g hg).2) hB
  · by_cases hji : j = i
    · subst hji
      rw [evi]
      exact fun g hg => ⟨Nat.le_trans hsz (hO g hg).1, (hO g hg).2⟩
    · rw [ev j hj hji]
      have hd' := (hdone j hdj).resolve_left hji
      exact fun g hg => ⟨(h.own j hj hd' g hg).1, Nat.lt_of_lt_of_le (h.own j hj hd' g hg).2 hB.size⟩
  · by_cases hji : j = i
    · subst hji
      rw [evi, ev k hk (fun e => hne e.symm)]
      have hd' := (hdone k hdk).resolve_left (fun e => hne e.symm)
      intro g hg hg'
      have h1 := (hO g hg).1
      have h2 := (h.own k hk hd' g hg').2
      omega
    · by_cases hki : k = i
      · subst hki
        rw [evi, ev j hj hji]
        have hd' := (hdone j hdj).resolve_left hji
        intro g hg hg'
        have h1 := (hO g hg').1
        have h2 := (h.own j hj hd' g hg).2
        omega
      · rw [ev j hj hji, ev k hk hki]
        exact h.apart j k hj hk hne ((hdone j hdj).resolve_left hji) ((hdone k hdk).resolve_left hki)
theorem wp_region_grow {P : Program} {id : Nat} {ops : Array Oper} {Q : Exit → Act → World → Prop} {a0 : Act} {w0 : World} (hm : P.follows .mixedOrders = true) {n : Nat} {d : Nat → Tmp} (G : Gr ops n d)
    (R : Nat → Value → World → Prop) (O : Nat → Value → List Nat) (stab : ∀ i v w w', R i v w → (∀ g ∈ O i v, g < w.heap.size) → Below w.heap.size w w' → R i v w') (hd : ∀ j, j < n → d j < a0.tmps.size)
    (step : ∀ i o, i < n → ops[i]? = some o → ∀ a w, a.defers = a0.defers → a.tmps.size = a0.tmps.size → (∀ t, (∀ j, j < n → d j ≠ t) → a.tmps[t]? = a0.tmps[t]?) → Below w0.heap.size w0 w → (∀ e ∈ o.after, R e.on (a.eval (.tmp (d e.on))) w) → (∀ e ∈ o.after, ∀ g ∈ O e.on (a.eval (.tmp (d e.on))), w0.heap.size ≤ g ∧ g < w.heap.size) →
      (∀ e ∈ o.after, ∀ f ∈ o.after, e.on ≠ f.on → ∀ g ∈ O e.on (a.eval (.tmp (d e.on))), g ∉ O f.on (a.eval (.tmp (d f.on)))) →
      o.wp P a w (fun a' w' => ∃ v, a' = a.put (some (d i)) v ∧ R i v w' ∧ Below w.heap.size w w' ∧ ∀ g ∈ O i v, w.heap.size ≤ g ∧ g < w'.heap.size) Q)
    (fin : ∀ o, ops[n]? = some o → ∀ a w, GrI n d R O a0 w0 (fun _ => True) a w → o.wp P a w (fun a' w' => Q .normal a' w') Q) : (Code.region id ops true).wp P Q a0 w0 := by
  refine wp_region_inv hm (fun listed a w => (listed.size = n + 1 ∧ listed.getD n true = false ∧ GrI n d R O a0 w0 (fun i => listed.getD i true = true) a w) ∨ (Q .normal a w ∧ ∀ i, listed.getD i true = true)) ?_ ?_ ?_
  · rintro listed a w (⟨hsz, hn, hI⟩ | ⟨_, hall⟩) i hi
    · obtain ⟨hu, o, ho, hdep⟩ := mem_ready.1 hi
      have hin : i < n + 1 := by
        rw [← G.size]
        exact (Array.getElem?_eq_some_iff.mp ho).1
      by_cases hlt : i < n
      · obtain ⟨o', ho', hdst, hg, hbe⟩ := G.op i hlt
        obtain rfl : o = o' := by rw [ho] at ho'; exact Option.some.inj ho'
        unfold wpOp
        simp only [ho]
        rw [if_pos (by simp [Region.wanted, hg])]
        refine .inl (Oper.wp_mono ?_ (step i o hlt ho a w hI.defers hI.tsize hI.frame hI.below (fun e he => ?_) (fun e he => ?_) (fun e he f hf hne => ?_)))
        · rintro a' w' ⟨v, rfl, hR, hB, hO⟩
          refine .inl ⟨by simpa using hsz, by rw [getD_set_other (by omega)]; exact hn, hI.step stab G.inj hd hlt (fun j hj => ?_) hR hB hO⟩
          by_cases hji : j = i
          · exact .inl hji
          · exact .inr (by rwa [getD_set_other (fun e => hji e.symm)] at hj)
        · exact hI.rel e.on (Nat.lt_trans (hbe e he).1 hlt) (getD_true_of_false (hdep e he (hbe e he).2))
        · exact hI.own e.on (Nat.lt_trans (hbe e he).1 hlt) (getD_true_of_false (hdep e he (hbe e he).2))
        · exact hI.apart e.on f.on (Nat.lt_trans (hbe e he).1 hlt) (Nat.lt_trans (hbe f hf).1 hlt) hne (getD_true_of_false (hdep e he (hbe e he).2)) (getD_true_of_false (hdep f hf (hbe f hf).2))
      · obtain rfl : i = n := by omega
        obtain ⟨o', ho', hg, hlast, _⟩ := G.last
        obtain rfl : o = o' := by rw [ho] at ho'; exact Option.some.inj ho'
        have hall : ∀ j, j < i → listed.getD j true = true := fun j hj => by
          obtain ⟨e, he, rfl, hb⟩ := hlast j hj
          exact getD_true_of_false (hdep e he hb)
        unfold wpOp
        simp only [ho]
        rw [if_pos (by simp [Region.wanted, hg])]
        refine .inl (Oper.wp_mono ?_ (fin o ho a w ⟨hI.defers, hI.tsize, hI.frame, hI.below, fun j hj _ => hI.rel j hj (hall j hj), fun j hj _ => hI.own j hj (hall j hj), fun j k hj hk hne _ _ => hI.apart j k hj hk hne (hall j hj) (hall k hk)⟩))
        intro a' w' hq
        refine .inr ⟨hq, fun j => ?_⟩
        by_cases hji : j = i
        · subst hji
          exact getD_set_self
        · rw [getD_set_other (fun e => hji e.symm)]
          by_cases hj : j < i
          · exact hall j hj
          · have : ¬ j < listed.size := by omega
            simp [Array.getD, this]
    · have := (mem_ready.1 hi).1
      rw [hall i] at this
      cases this
  · rintro listed a w (⟨hsz, hn, hI⟩ | ⟨hq, _⟩) hr
    · exfalso
      have key : ∀ m, ∀ j, j < m → j ≤ n → listed.getD j true = true := by
        intro m
        induction m with
        | zero => intro j hj; omega
        | succ m ih =>
          intro j hj hjn
          by_cases hjm : j < m
          · exact ih j hjm hjn
          · obtain rfl : j = m := by omega
            cases hb : listed.getD j true with
            | true => rfl
            | false =>
              exfalso
              have hmem : j ∈ Region.ready .any ops listed := by
                rw [mem_ready]
                refine ⟨hb, ?_⟩
                by_cases hlt : j < n
                · obtain ⟨o, ho, _, _, hbe⟩ := G.op j hlt
                  exact ⟨o, ho, fun e he _ => getD_false_of_true (by have := (hbe e he).1; omega) (ih e.on (hbe e he).1 (by have := (hbe e he).1; omega))⟩
                · obtain rfl : j = n := by omega
                  obtain ⟨o, ho, _, _, hlt'⟩ := G.last
                  exact ⟨o, ho, fun e he _ => getD_false_of_true (by have := hlt' e he; omega) (ih e.on (hlt' e he) (by have := hlt' e he; omega))⟩
              rw [hr] at hmem
              cases hmem
      rw [key (n + 1) n (Nat.lt_succ_self _) (Nat.le_refl _)] at hn
      cases hn
    · exact hq
  · refine .inl ⟨by simp [G.size], by simp [Array.getD, G.size], ⟨rfl, rfl, fun _ _ => rfl, (Below.refl _ _).drew, fun i hi h => ?_, fun i hi h => ?_, fun i j hi hj hne h => ?_⟩⟩ <;>
      (exfalso; simp [Array.getD, G.size] at h; omega)
end
section
open Go.RowKit
/-- append to a slice written out empty: a new row, and nothing else has turned. -/
theorem app_new {P : Program} {w : World} (base : Nat) (t ty e : TypeId) (i : TypeInfo) (z : Value) (size bytes : Nat) (ht : P.underlying t = some (.slice e)) (hi : P.info? e = some i) (hz : i.zero = some z)
    (hsize : i.size = size) (hby : i.bytes = bytes) (hzs : z.cells.size = size) (hsz : 0 < size) (b : Nat) (hown : w.ownsRow base e size (.slice (some ⟨b, 0, none⟩) 0 0) 0 [])
    (a : Addr) (m c : Nat) (us : List Value) (hl : us.length = m * size) (hc : ∀ j u, us[j]? = some u → w.cell? (a.add j) = some u) (h1 : ∀ u ∈ us, u.oneCell' = true)
    (hm1 : 1 ≤ m) (hm : m ≤ 10000000) (hbb : bytes ≤ 1000) (hbase : base ≤ w.heap.size) :
    ∃ cap w', (Builtin.append_ #[t, t] ty #[.slice (some ⟨b, 0, none⟩) 0 0, .slice (some a) m c]).run P w = .ok (.slice (some ⟨w.heap.size, 0, none⟩) m cap) w' ∧ w'.ownsRow base e size (.slice (some ⟨w.heap.size, 0, none⟩) m cap) m us ∧ Below w.heap.size w w' := by
  obtain ⟨v', w', r1, r2, -, -⟩ := run_appG (P := P) (w := w) base t ty e i z size bytes ht hi hz hsize hby hzs hsz _ 0 [] hown (some a) m c us (fun e => by cases e) hl (fun ad had => by cases had; exact hc) h1 (by omega) hbb hbase
  have hbytes : (0 + m) * bytes ≤ 140737488355328 := by
    have : (0 + m) * bytes ≤ 10000000 * 1000 := Nat.mul_le_mul (by omega) hbb
    omega
  have hr := run_append_grow (P := P) (w := w) t ty e i z ht hi hz ⟨b, 0, none⟩ 0 0 [] (by simp) (fun j v h => by simp at h) a m c us (by rw [hsize]; exact hl) hc (by omega) (by omega) (by rw [hby]; exact growslice_fits (by omega) (by omega))
  rw [r1] at hr
  simp only [Result.ok.injEq, Nat.zero_add] at hr
  obtain ⟨rfl, rfl⟩ := hr
  refine ⟨_, _, r1, by simpa using r2, ((Below.refl _ _).drew).alloc (by simp) _⟩
theorem info_glob : (Tryz.prog.info? 78).map (fun i => (i.zero, i.size, i.bytes)) = some (some (.agg #[.string ⟨#[]⟩, .int .i64 0]), 2, 24) := by kernel_rfl
theorem globs_cells {w : World} {v : Value} {gs : List Gl} (h : Globs w v gs) (hp : 0 < gs.length) : ∃ ad c, v = .slice (some ad) gs.length c ∧ ∀ j u, (gflat gs)[j]? = some u → w.cell? (ad.add j) = some u := by
  obtain ⟨a, cap, rfl, -, -, h⟩ := h
  obtain ⟨b, off, rfl, hc⟩ := h hp
  refine ⟨⟨b, off, none⟩, cap, rfl, fun j u hu => ?_⟩
  have hj : j < gs.length * 2 := by rw [← gflat_len]; exact (List.getElem?_eq_some_iff.1 hu).1
  have e : j = j / 2 * 2 + j % 2 := by omega
  have hlt : j / 2 < gs.length := by omega
  obtain ⟨c0, c1⟩ := hc (j / 2) hlt
  have hg := gflat_get gs (j / 2) (j % 2) hlt (by omega)
  rw [← e, hu] at hg
  rw [addrO]
  have h2 : j % 2 = 0 ∨ j % 2 = 1 := by omega
  rcases h2 with h2 | h2
  · rw [h2] at hg e
    simp [gcl] at hg
    rw [e, hg]
    exact c0
  · rw [h2] at hg e
    simp [gcl] at hg
    rw [e, ← Nat.add_assoc, hg]
    exact c1
end
section
open Go.RowKit
theorem puts_get (x : Act) : ∀ (ds : List Tmp) (a : Act) (t : Tmp), a.tmps.size = x.tmps.size → (∀ t ∈ ds, t < x.tmps.size) → (ds.foldl (fun a t => a.put (some t) (x.eval (.tmp t))) a).tmps[t]? = if t ∈ ds then x.tmps[t]? else a.tmps[t]?
  | [], a, t, _, _ => by simp
  | d :: ds, a, t, hs, hin => by
    have hd : d < x.tmps.size := hin d (by simp)
    rw [List.foldl_cons, puts_get x ds _ t (by simp [Act.put]; exact hs) (fun t ht => hin t (by simp [ht]))]
    by_cases h1 : t ∈ ds
    · rw [if_pos h1, if_pos (by simp [h1])]
    · rw [if_neg h1]
      by_cases h2 : t = d
      · subst h2
        rw [if_pos (by simp)]
        have : t < a.tmps.size := by rw [hs]; exact hd
        simp [Act.put, Act.eval, this, hd]
      · rw [if_neg (by simp [h1, h2])]
        simp [Act.put, Array.getElem?_setIfInBounds_ne (fun e => h2 e.symm)]
theorem puts_defers (x : Act) : ∀ (ds : List Tmp) (a : Act), (ds.foldl (fun a t => a.put (some t) (x.eval (.tmp t))) a).defers = a.defers
  | [], a => rfl
  | d :: ds, a => by rw [List.foldl_cons, puts_defers x ds]; rfl
/-- A frame, out of the one that it came from and of what was put into it. -/
theorem act_puts {a0 x : Act} (ds : List Tmp) (hd : x.defers = a0.defers) (hs : x.tmps.size = a0.tmps.size) (hin : ∀ t ∈ ds, t < a0.tmps.size) (hfr : ∀ t, t ∉ ds → x.tmps[t]? = a0.tmps[t]?) : x = ds.foldl (fun a t => a.put (some t) (x.eval (.tmp t))) a0 := by
  have h1 : (ds.foldl (fun a t => a.put (some t) (x.eval (.tmp t))) a0).tmps = x.tmps := by
    apply Array.ext_getElem?
    intro t
    rw [puts_get x ds a0 t hs.symm (fun t ht => by rw [hs]; exact hin t ht)]
    by_cases h : t ∈ ds
    · rw [if_pos h]
    · rw [if_neg h, hfr t h]
  have h2 := puts_defers x ds a0
  obtain ⟨xt, xd⟩ := x
  generalize ds.foldl (fun a t => a.put (some t) ((⟨xt, xd⟩ : Act).eval (.tmp t))) a0 = y at h1 h2 ⊢
  obtain ⟨yt, yd⟩ := y
  simp only at h1 h2 hd
  rw [h1, h2, hd]
theorem lt10 {i : Nat} (h : i < 10) : i = 0 ∨ i = 1 ∨ i = 2 ∨ i = 3 ∨ i = 4 ∨ i = 5 ∨ i = 6 ∨ i = 7 ∨ i = 8 ∨ i = 9 := by omega
end
section
def sumBy {α : Type} (f : α → Nat) : List α → Nat
  | [] => 0
  | x :: r => f x + sumBy f r
theorem sumBy_append {α : Type} (f : α → Nat) (a b : List α) : sumBy f (a ++ b) = sumBy f a + sumBy f b := by
  induction a with
  | nil => simp [sumBy]
  | cons x r ih => simp [sumBy, ih]; omega
theorem sumBy_step {α : Type} (f : α → Nat) (l : List α) (k : Nat) (h : k < l.length) : sumBy f (l.take (k + 1)) = sumBy f (l.take k) + f l[k] := by
  rw [take_succ l k h, sumBy_append]; simp [sumBy]
theorem sumBy_le {α : Type} (f : α → Nat) (l : List α) (k : Nat) : sumBy f (l.take k) ≤ sumBy f l := by
  have := sumBy_append f (l.take k) (l.drop k)
  rw [List.take_append_drop] at this
  omega
theorem sumBy_mem {α : Type} (f : α → Nat) (l : List α) (x : α) (h : x ∈ l) : f x ≤ sumBy f l := by
  induction l with
  | nil => cases h
  | cons y r ih =>
    simp only [sumBy]
    rcases List.mem_cons.1 h with rfl | h
    · omega
    · have := ih h; omega
def szN (n : Nd) : Nat := n.name.size
def szNs (ns : List Nd) : Nat := ns.length + sumBy szN ns
def szSt (s : St) : Nat := s.name.size + szNs s.e + szNs s.f
def szSs (ss : List St) : Nat := ss.length + sumBy szSt ss
def szPs (ps : List ByteArray) : Nat := ps.length + sumBy ByteArray.size ps
def szFu (f : Fu) : Nat := f.name.size + szPs f.params + szSs f.body
def szFs (fs : List Fu) : Nat := fs.length + sumBy szFu fs
def szG (g : Gl) : Nat := g.name.size
def szGs (gs : List Gl) : Nat := gs.length + sumBy szG gs
def szT (t : Tr) : Nat := szGs t.globals + szFs t.funcs
def szR (left : Int) (n : Nat) : Int := if (n : Int) ≤ left then left - n else -1
theorem szR_le {left : Int} {n : Nat} (h : (n : Int) ≤ left) : szR left n = left - n := if_pos h
theorem szR_gt {left : Int} {n : Nat} (h : left < (n : Int)) : szR left n = -1 := if_neg (by omega)
/-- Every length can be told. -/
def wfNs (ns : List Nd) : Prop := ns.length ≤ 9223372036854775807 ∧ ∀ n ∈ ns, n.name.size ≤ 9223372036854775807
def wfSt (s : St) : Prop := s.name.size ≤ 9223372036854775807 ∧ wfNs s.e ∧ wfNs s.f
def wfSs (ss : List St) : Prop := ss.length ≤ 9223372036854775807 ∧ ∀ s ∈ ss, wfSt s
def wfPs (ps : List ByteArray) : Prop := ps.length ≤ 9223372036854775807 ∧ ∀ s ∈ ps, s.size ≤ 9223372036854775807
def wfFu (f : Fu) : Prop := f.name.size ≤ 9223372036854775807 ∧ wfPs f.params ∧ wfSs f.body
def wfFs (fs : List Fu) : Prop := fs.length ≤ 9223372036854775807 ∧ ∀ f ∈ fs, wfFu f
def wfGs (gs : List Gl) : Prop := gs.length ≤ 9223372036854775807 ∧ ∀ g ∈ gs, g.name.size ≤ 9223372036854775807
def wfT (t : Tr) : Prop := wfGs t.globals ∧ wfFs t.funcs
theorem smallT_of {t : Tr} (h : szT t ≤ 1048576) : smallT t := by
  unfold szT szGs szFs at h
  refine ⟨by omega, by omega, fun f hf => ?_⟩
  have h1 := sumBy_mem szFu _ _ hf
  have e1 : szFu f = f.name.size + (f.params.length + sumBy ByteArray.size f.params) + (f.body.length + sumBy szSt f.body) := rfl
  refine ⟨by omega, by omega, fun s hs => ?_⟩
  have h2 := sumBy_mem szSt _ _ hs
  have e2 : szSt s = s.name.size + (s.e.length + sumBy szN s.e) + (s.f.length + sumBy szN s.f) := rfl
  exact ⟨by omega, by omega⟩
end
section
open Go.RowKit
/-- A tree that can be read, of bounded size. -/
structure TW (S : Nat → Prop) (w : World) (vg vf : Value) (t : Tr) : Prop where
  gs : ∀ W, Tcs S w W → Globs W vg t.globals
  fs : ∀ W, Tcs S w W → Funcs W vf t.funcs
  gl : t.globals.length ≤ 30
  gn : ∀ x ∈ t.globals, x.name.size ≤ 100000
  fl : t.funcs.length ≤ 20
  ok : ∀ f ∈ t.funcs, okF2 f
theorem TD.tw {S : Nat → Prop} {w : World} {vg vf : Value} {t : Tr} (h : TD S w vg vf t) : TW S w vg vf t := ⟨h.gs, h.funcs, by have := h.gl.2; omega, h.gn, h.fl.2, fun f hf => (h.ok f hf).two⟩
theorem TW.tcs {S : Nat → Prop} {w w' : World} {vg vf : Value} {t : Tr} (h : TW S w vg vf t) (ht : Tcs S w w') : TW S w' vg vf t := ⟨fun W hW => h.gs W (ht.trans hW), fun W hW => h.fs W (ht.trans hW), h.gl, h.gn, h.fl, h.ok⟩
theorem TW.small {S : Nat → Prop} {w : World} {vg vf : Value} {t : Tr} (h : TW S w vg vf t) : smallT t ∧ wfT t := by
  refine ⟨⟨by have := h.gl; omega, by have := h.fl; omega, fun f hf => ?_⟩, ⟨⟨by have := h.gl; omega, fun x hx => by have := h.gn x hx; omega⟩, ⟨by have := h.fl; omega, fun f hf => ?_⟩⟩⟩
  · have k := h.ok f hf
    refine ⟨by have := k.pl; omega, by have := k.bu; omega, fun s hs => ?_⟩
    obtain ⟨h1, h2, -⟩ := k.st s hs
    exact ⟨by have := h1.1; omega, by have := h2.1; omega⟩
  · have k := h.ok f hf
    refine ⟨by have := k.nm; omega, ⟨by have := k.pl; omega, fun p hp => by have := k.pn p hp; omega⟩, ⟨by have := k.bu; omega, fun s hs => ?_⟩⟩
    obtain ⟨h1, h2, h3⟩ := k.st s hs
    exact ⟨by omega, ⟨by have := h1.1; omega, fun n hn => by have := h1.2 n hn; omega⟩, ⟨by have := h2.1; omega, fun n hn => by have := h2.2 n hn; omega⟩⟩
theorem fr_main {M B L : Nat} {W16 : World} {nm : ByteArray} {ba : Option Addr} {bn bc : Nat} {R' : List SV} (hM : M ≤ W16.heap.size) (hn : nm.size ≤ 100000) (hr : SR B W16 (.slice ba bn bc) R' L) (hL2 : 1 ≤ R'.length ∧ L ≤ 10000) (hMB : M ≤ B) :
    FR (fun k => k < M) M (W16.alloc (.cells #[.string nm, .slice none 0 0, .slice ba bn bc] 61)) (.slice (some ⟨W16.heap.size, 0, none⟩) 1 1) [⟨⟨nm, [], R'.map (·.s)⟩, .slice none 0 0, .slice ba bn bc, R', [], []⟩] := by
  have hok : okFn ⟨nm, [], R'.map (·.s)⟩ := ⟨hn, by show (0 : Nat) ≤ 20; omega, (fun p hp => by cases hp), by show 1 ≤ (R'.map (·.s)).length; simp; omega, by show (R'.map (·.s)).length ≤ 10000; have := hr.len; simp; omega, hr.ok.body⟩
  refine ⟨⟨?_, fun W hW x hx => ?_⟩, fun x hx => by simp only [List.mem_singleton] at hx; subst hx; exact hok⟩
  · exact World.ownsRow_lit W16 #[.string nm, .slice none 0 0, .slice ba bn bc] 1 hM (by decide) rfl
  · simp only [List.mem_singleton] at hx
    subst hx
    have hW' : Tcs (fun b => b < B) W16 W := ((Tcs.refl (fun b => b < B) W16).alloc _).next hW fun k hk => by
      rcases hk with hk | hk
      · exact .inl (by omega)
      · simp only [Value.ownBlock, Option.some.injEq] at hk
        exact .inr (by omega)
    exact ⟨⟨none, 0, rfl, Nat.le_refl _, by omega, fun h => absurd h (Nat.lt_irrefl _)⟩, hr.rd W hW', rfl⟩
end
end Go.Proofs.YtjhmgjimppflhaaGreatDoor
