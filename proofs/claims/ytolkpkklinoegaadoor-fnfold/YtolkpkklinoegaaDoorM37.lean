import Derived.Test.YtolkpkklinoegaaDoorM28
import Derived.Test.YtolkpkklinoegaaDoorM35
set_option linter.unusedSectionVars false
variable [Inhabited Go.Proofs.YtolkpkklinoegaaDoor.Pick]
namespace Go.Proofs.YtolkpkklinoegaaDoor
set_option linter.unusedVariables false
set_option linter.unusedSimpArgs false
set_option maxRecDepth 100000
set_option maxHeartbeats 16000000
section
open Go.RowKit
def lk (l : List (ByteArray × Int)) (x : ByteArray) : Option Int := match lix l x with
 | some j => some (l.getD j (⟨#[]⟩, 0)).2
 | none => none
theorem lk_rd (t : Tr) (s : ES) (x : ByteArray) : s.rd t x = match lk s.l x with
  | some v => v
  | none => match gix t.globals x with
   | some k => (s.g.getD k []).getD 0 0
   | none => 0 := by
 unfold ES.rd lk
 cases lix s.l x <;> rfl
theorem lk_no {l : List (ByteArray × Int)} {x : ByteArray} (h : x ∉ l.map Prod.fst) : lk l x = none := by
 unfold lk
 rw [lix_no h]
structure LS (gs : List Gl) (d : Nat) (s z : ES) : Prop where
 g : z.g = s.g
 i : z.i = s.i
 o : z.o = s.o
 u : s.u + d ≤ z.u
 l : ∀ x ∈ s.l.map Prod.fst, lk z.l x = lk s.l x
 n : ∀ x ∈ z.l.map Prod.fst, gix gs x = none
theorem LS.sp {gs : List Gl} {d : Nat} {s z : ES} (h : LS gs d s z) (hu : 0 < s.u) : LS gs d s.sp z.sp := ⟨h.g, h.i, h.o, by have := h.u; simp only [ES.sp]; omega, h.l, h.n⟩
theorem LS.sl {gs : List Gl} {d : Nat} {s z : ES} (h : LS gs d s z) (hu : 0 < s.u) : LS gs (d + 1) s.sp z := ⟨h.g, h.i, h.o, by have := h.u; simp only [ES.sp]; omega, h.l, h.n⟩
theorem LS.dn {gs : List Gl} {d : Nat} {s z : ES} (h : LS gs (d + 1) s z) : LS gs d s z.sp := ⟨h.g, h.i, h.o, by have := h.u; simp only [ES.sp]; omega, h.l, h.n⟩
theorem LS.back {gs : List Gl} {d : Nat} {s z : ES} (h : LS gs d s z.sp) (hu : 0 < z.u) : LS gs (d + 1) s z := ⟨h.g, h.i, h.o, by have := h.u; simp only [ES.sp] at this; omega, h.l, h.n⟩
theorem LS.less {gs : List Gl} {d c : Nat} {s z : ES} (h : LS gs d s z) (hc : c ≤ d) : LS gs c s z := ⟨h.g, h.i, h.o, by have := h.u; omega, h.l, h.n⟩
theorem LS.pos {gs : List Gl} {d : Nat} {s z : ES} (h : LS gs d s z) (hu : 0 < s.u) : 0 < z.u := by have := h.u; omega
theorem LS.work {t t' : Tr} {d : Nat} {s z : ES} {n : Nd} {v : Nat → Int} {x : Int} (hg : t'.globals = t.globals) (h : LS t.globals d s z) (hn : nodeE t (s.l.map Prod.fst) n = 0) (hx : (wkN t n v s).1 = .val x) : (wkN t' n v z).1 = .val x ∧ LS t.globals d (wkN t n v s).2 (wkN t' n v z).2 ∧ (wkN t' n v z).2.l = z.l := by
 have hws : ∀ y, z.ws t' y = s.ws t y := fun y => by unfold ES.ws; rw [hg, h.g]
 unfold wkN at hx ⊢
 by_cases h1 : n.kind = 1
 ·simp only [h1, if_true] at hx ⊢
  exact ⟨hx, h, by first | rfl | trivial⟩
 simp only [h1, if_false] at hx ⊢
 by_cases h2 : n.kind = 2
 ·simp only [h2, if_true] at hx ⊢
  refine ⟨?_, h, by first | rfl | trivial⟩
  rw [← hx]
  congr 1
  rw [lk_rd, lk_rd]
  rcases node_var hn h2 with hm | ⟨hm, h0⟩
  ·rw [h.l _ hm, hg, h.g]
  ·obtain ⟨k, hk, e1, -⟩ := gix_glob (gs := t.globals) (x := n.name) (by omega)
   rw [lk_no hm, lk_no (fun hz => by rw [h.n _ hz] at e1; cases e1), hg, h.g]
 simp only [h2, if_false] at hx ⊢
 by_cases h3 : n.kind = 3
 ·simp only [h3, if_true] at hx ⊢
  rw [hws]
  by_cases hi : 0 ≤ v 0 ∧ v 0 < (s.ws t n.name).length
  ·rw [if_pos hi] at hx ⊢
   rw [if_pos hi]
   exact ⟨hx, h, by first | rfl | trivial⟩
  ·rw [if_neg hi] at hx
   cases hx
 simp only [h3, if_false] at hx ⊢
 by_cases h5 : n.kind = 5
 ·simp only [h5, if_true] at hx ⊢
  rw [h.i]
  cases hi : s.i with
  | nil =>
   rw [hi] at hx
   exact ⟨hx, h, by first | rfl | trivial⟩
  | cons y r =>
   rw [hi] at hx
   exact ⟨hx, ⟨h.g, rfl, h.o, h.u, h.l, h.n⟩, by first | rfl | trivial⟩
 simp only [h5, if_false] at hx ⊢
 by_cases h6 : n.kind = 6
 ·simp only [h6, if_true] at hx ⊢
  exact ⟨hx, h, by first | rfl | trivial⟩
 simp only [h6, if_false] at hx ⊢
 exact ⟨hx, h, by first | rfl | trivial⟩
theorem kids_run {t' : Tr} {fr' : List Int} {gs : List Gl} {d : Nat} {F : Nat → List Nd} {st : Nat → ES} {v : Nat → Int} {z : ES} : ∀ A, (∀ i, i < A → ∀ z, LS gs d (st i) z → ∃ m z', Ev t' fr' m (.e (F i)) z (.val (v i)) z' ∧ LS gs d (st (i + 1)) z' ∧ z'.l = z.l) → LS gs d (st 0) z →
  ∃ (m : Nat) (zt : Nat → ES), zt 0 = z ∧ (∀ i, i < A → Ev t' fr' m (.e (F i)) (zt i) (.val (v i)) (zt (i + 1))) ∧ ∀ i, i ≤ A → LS gs d (st i) (zt i) ∧ (zt i).l = z.l
 | 0, _, h0 => by
  refine ⟨0, fun _ => z, rfl, (fun i hi => by omega), fun i hi => ?_⟩
  obtain rfl : i = 0 := by omega
  exact ⟨h0, rfl⟩
 | A + 1, ih, h0 => by
  obtain ⟨m, zt, e0, h1, h2⟩ := kids_run A (fun i hi => ih i (by omega)) h0
  obtain ⟨m', z', h3, h4, h5⟩ := ih A (by omega) (zt A) (h2 A (Nat.le_refl _)).1
  refine ⟨max m m', fun i => if i ≤ A then zt i else z', by simp [e0], fun i hi => ?_, fun i hi => ?_⟩
  ·by_cases e : i = A
   ·subst e
    simp only [Nat.le_refl, if_true]
    rw [if_neg (by omega)]
    exact h3.ups (Nat.le_max_right ..)
   ·simp only [show i ≤ A by omega, if_true]
    rw [if_pos (by omega)]
    exact (h1 i (by omega)).ups (Nat.le_max_left ..)
  ·by_cases e : i ≤ A
   ·simp only [e, if_true]
    exact h2 i e
   ·have : i = A + 1 := by omega
    subst this
    simp only [e, if_false]
    exact ⟨h4, h5.trans (h2 A (Nat.le_refl _)).2⟩
theorem join_cut {F : Nat → List Nd} {A : Nat} {n : Nd} (hn : nodeB n = true) (hA : arity n = A) (h : ∀ i, i < A → oneB (F i) = true) : ∃ b, Cut (joinF F A ++ [n]) A b ∧ ∀ i, i < A → kid (joinF F A ++ [n]) b i = F i := by
 have hT : ∀ s ∈ (List.range A).map F, oneB s = true := fun s hs => by
  obtain ⟨i, hi, rfl⟩ := List.mem_map.1 hs
  exact h i (List.mem_range.1 hi)
 have hc := push_cut ((List.range A).map F) n hn (by simpa using hA) hT
 rw [joinF_flat]
 have hlen : ((List.range A).map F).length = A := by simp
 rw [hlen] at hc
 refine ⟨_, hc, fun i hi => ?_⟩
 have := seg_kid ((List.range A).map F) n i (by rw [hlen]; exact hi)
 rw [kid, this]
 simp
theorem num_inv {t : Tr} {fr : List Int} {m : Nat} {q : List Nd} {x y : Int} {z z' : ES} (hq : isN q = some x) (h : Ev t fr m (.e q) z (.val y) z') : y = x ∧ z' = z.sp ∧ 0 < z.u := by
 obtain ⟨nd, rfl, hk, rfl⟩ : ∃ nd : Nd, q = [nd] ∧ nd.kind = 1 ∧ x = nd.val := by
  unfold isN at hq
  split at hq
  ·rename_i nd
   split at hq
   ·rename_i hk
    exact ⟨nd, rfl, hk, by simpa using hq.symm⟩
   ·cases hq
  ·cases hq
 have hr : rootN [nd] = nd := root_snoc [] nd
 cases m with
 | zero => first | cases h using Ev_i | cases h
 | succ m =>
  obtain ⟨A, b, st, v, j, hc, rfl, hj, h1, h2⟩ := ev_plain h (by rw [hr, hk]; decide) (by rw [hr, hk]; decide)
  have hA : A = 0 := by
   have := hc.ar
   rw [hr] at this
   unfold arity at this
   simp [hk] at this
   omega
  subst hA
  rw [hr] at h2
  rcases h2 with ⟨h2, -⟩ | ⟨-, -, h2, -⟩ | ⟨-, hu, -, e1, e2⟩ | ⟨-, -, h4, -⟩
  ·omega
  ·cases h2
  ·simp only [wkN, hk, if_true] at e1 e2
   cases e1
   exact ⟨rfl, e2, hu⟩
  ·omega
theorem num_ev (t : Tr) (fr : List Int) {x : Int} {z : ES} (hx : inB x) (hu : 0 < z.u) : Ev t fr 1 (.e (numN x)) z (.val x) z.sp := by
 obtain ⟨A, b, hc, -⟩ := one_cuts (oneB_num hx)
 have hr : rootN (numN x) = ⟨1, x, ⟨#[]⟩⟩ := root_snoc [] _
 have hA : A = 0 := by
  have := hc.ar
  rw [hr] at this
  simpa [arity] using this.symm
 subst hA
 have := Ev.work (t := t) (fr := fr) 0 (numN x) 0 b (fun _ => z) (fun _ => 0) hc (by rw [hr]; exact (by decide : (1 : Int) ≠ 8)) (by rw [hr]; exact (by decide : (1 : Int) ≠ 9)) (by rw [hr]; exact (by decide : (1 : Int) ≠ 4)) (fun i hi => by omega) hu
 rw [hr] at this
 simpa [wkN] using this
theorem truth_ev {t : Tr} {fr : List Int} {m : Nat} {q : List Nd} {y : Int} {z z' : ES} (h : Ev t fr m (.e q) z (.val y) z') (hq : oneB q = true) (hy : inB y) (hu : isN q = none → 2 ≤ z'.u) : ∃ m' z2, Ev t fr m' (.e (truthL q)) z (.val (boolN (decide (y ≠ 0)))) z2 ∧ (z2 = z' ∨ z2 = z'.sp.sp) := by
 unfold truthL
 split
 ·rename_i x hx
  obtain ⟨rfl, rfl, h0⟩ := num_inv hx h
  exact ⟨1, _, num_ev t fr (bool_bd _) h0, .inl rfl⟩
 ·rename_i hn
  have hu := hu hn
  have ha : oneB (numN 0) = true := oneB_num ⟨by decide, by decide⟩
  obtain ⟨b, hc, hk⟩ := join_cut (F := fun i => if i = 0 then q else numN 0) (A := 2) (n := ⟨7, 12, ⟨#[]⟩⟩) (by unfold nodeB; simp) rfl (fun i hi => by
   by_cases e : i = 0
   ·simp [e, hq]
   ·simp [e, ha])
  have ej : joinF (fun i => if i = 0 then q else numN 0) 2 ++ [⟨7, 12, ⟨#[]⟩⟩] = q ++ [⟨1, 0, ⟨#[]⟩⟩, ⟨7, 12, ⟨#[]⟩⟩] := by simp [joinF, numN]
  rw [ej] at hc hk
  have hr : rootN (q ++ [⟨1, 0, ⟨#[]⟩⟩, ⟨7, 12, ⟨#[]⟩⟩]) = ⟨7, 12, ⟨#[]⟩⟩ := by
   have := root_snoc (q ++ [⟨1, 0, ⟨#[]⟩⟩]) ⟨7, 12, ⟨#[]⟩⟩
   rwa [List.append_assoc] at this
  refine ⟨max m 1 + 1, z'.sp.sp, ?_, .inr rfl⟩
  have hw := Ev.work (t := t) (fr := fr) (max m 1) _ 2 b (fun i => if i = 0 then z else if i = 1 then z' else z'.sp) (fun i => if i = 0 then y else 0) hc (by rw [hr]; decide) (by rw [hr]; decide) (by rw [hr]; decide) (fun i hi => by
   rw [hk i hi]
   have : i = 0 ∨ i = 1 := by omega
   rcases this with rfl | rfl
   ·exact h.ups (Nat.le_max_left ..)
   ·exact (num_ev t fr ⟨by decide, by decide⟩ (by show 0 < z'.u; omega)).ups (Nat.le_max_right ..)) (by simp only [ES.sp]; simp; omega)
  rw [hr] at hw
  have e12 : apN 12 y 0 = boolN (decide (y ≠ 0)) := by
   have hw0 : wrap32 y = y := by unfold inB at hy; unfold RowKit.wrap32; omega
   simp only [apN]
   rw [hw0]
   simp [RowKit.wrap32, boolN]
  simpa [wkN, e12] using hw
theorem ev_sidesV {t : Tr} {fr : List Int} {n : Nat} {e : List Nd} {s : ES} {r : ER} {s' : ES} {v : Int} (h : Ev t fr (n + 1) (.e e) s r s') (hk : (rootN e).kind = 8 ∨ (rootN e).kind = 9) (hv : r = .val v) : ∃ b x s1, Cut e 2 b ∧ Ev t fr n (.e (kid e b 0)) s (.val x) s1 ∧ 0 < s1.u ∧ ((((rootN e).kind = 8 ∧ x = 0 ∨ (rootN e).kind = 9 ∧ x ≠ 0) ∧ v = boolN (decide (x ≠ 0)) ∧ s' = s1.sp) ∨ (((rootN e).kind = 8 ∧ x ≠ 0 ∨ (rootN e).kind = 9 ∧ x = 0) ∧ ∃ y s2, Ev t fr n (.e (kid e b 1)) s1.sp (.val y) s2 ∧ 0 < s2.u ∧ v = boolN (decide (y ≠ 0)) ∧ s' = s2.sp)) := by
 cases h using Ev_i with
 | kid _ _ A b st v j c _ h1 h2 h3 h4 h5 h6 => cases hv
 | dry _ _ A b st v h1 h2 h3 h4 h5 => cases hv
 | work _ _ A b st v h1 h2 h3 h4 h5 h6 => rcases hk with h | h <;> contradiction
 | call _ _ A b st v f _ _ h1 h2 h3 h4 h5 h6 => omega
 | left _ _ b _ c _ h1 h2 h3 => cases hv
 | ldry _ _ b _ x _ h1 h2 h3 h4 => cases hv
 | lone _ _ b _ x s1 h1 h2 h3 h4 => cases hv; exact ⟨b, x, s1, h1, h3, h4, .inl ⟨h2, rfl, rfl⟩⟩
 | rigt _ _ b _ x s1 c _ h1 h2 h3 h4 h5 => cases hv
 | rdry _ _ b _ x s1 y _ h1 h2 h3 h4 h5 h6 => cases hv
 | both _ _ b _ x s1 y s2 h1 h2 h3 h4 h5 h6 => cases hv; exact ⟨b, x, s1, h1, h3, h4, .inr ⟨h2, y, s2, h5, h6, rfl, rfl⟩⟩
def CalOk (t t' : Tr) (fr fr' : List Int) (N : Nat) (x : ByteArray) : Prop := ∀ f, fnum t.funcs x = some f → ∀ n, n ≤ N → ∀ (vs : List Int) (s : ES) (v : Int) (s' : ES) (d : Nat) (z : ES), Ev t fr n (.c f vs) s (.val v) s' → OkW s → (∀ y ∈ vs, inB y) → (∀ hf : f < t.funcs.length, vs.length = t.funcs[f].params.length) → LS t.globals d s z → ∃ f' m z', fnum t'.funcs x = some f' ∧ Ev t' fr' m (.c f' vs) z (.val v) z' ∧ LS t.globals d s' z' ∧ z'.l = z.l
theorem isN_mem {q : List Nd} {x : Int} (h : isN q = some x) : ∀ n ∈ q, n.kind = 1 := by
 unfold isN at h
 split at h
 ·split at h
  ·rename_i nd hk
   intro n hn
   simp at hn
   rw [hn]
   exact hk
  ·cases h
 ·cases h
theorem joinF_mem {F : Nat → List Nd} {n : Nd} : ∀ {A i : Nat}, i < A → n ∈ F i → n ∈ joinF F A
 | A + 1, i, hi, h => by
  simp only [joinF, List.mem_append]
  by_cases e : i = A
  ·subst e; exact .inr h
  ·exact .inl (joinF_mem (by omega) h)
set_option maxHeartbeats 1000000 in
theorem fold_ev {t t' : Tr} {fr fr' : List Int} (hg : t'.globals = t.globals) (N : Nat) {e r : List Nd} (h : Fd apN e r) : (∀ n ∈ r, n.kind = 4 → CalOk t t' fr fr' N n.name) → ∀ (n : Nat) (s : ES) (v : Int) (s' : ES) (d : Nat) (z : ES), n ≤ N → Ev t fr n (.e e) s (.val v) s' → OkW s → KnE t (s.l.map Prod.fst) e → LS t.globals d s z →
  ∃ m z', Ev t' fr' m (.e r) z (.val v) z' ∧ LS t.globals d s' z' ∧ z'.l = z.l := by
 induction h using Fd_i with
 | mk e A b F hc hF ih =>
  intro hcal n s v s' d z hN hev hok hkn hls
  have h1B : ∀ i, i < A → oneB (F i) = true := fun i hi => (hF i hi).oneB
  have hgood := hc.root_good
  have hrm : rootN e ∈ e := rootN_mem hc.len
  cases n with
  | zero => first | cases hev using Ev_i | cases hev
  | succ n =>
  by_cases h89 : (rootN e).kind = 8 ∨ (rootN e).kind = 9
  ·have hA := hc.ar2 (by omega)
   subst hA
   -- the left side, in both
   obtain ⟨x, s1, hk0, hu1, hrest⟩ : ∃ x s1, Ev t fr n (.e (kid e b 0)) s (.val x) s1 ∧ 0 < s1.u ∧ ((((rootN e).kind = 8 ∧ x = 0 ∨ (rootN e).kind = 9 ∧ x ≠ 0) ∧ v = boolN (decide (x ≠ 0)) ∧ s' = s1.sp) ∨ (((rootN e).kind = 8 ∧ x ≠ 0 ∨ (rootN e).kind = 9 ∧ x = 0) ∧ ∃ y s2, Ev t fr n (.e (kid e b 1)) s1.sp (.val y) s2 ∧ 0 < s2.u ∧ v = boolN (decide (y ≠ 0)) ∧ s' = s2.sp)) := by
    have hb : ∀ {b'}, Cut e 2 b' → ∀ i, i < 2 → kid e b' i = kid e b i := fun hc' i hi => by
     obtain ⟨-, hb⟩ := hc'.one hc
     unfold kid
     rw [hb i (by omega), hb (i + 1) (by omega)]
    obtain ⟨b', x, s1, q1, q3, q4, hq⟩ := ev_sidesV hev h89 rfl
    rw [hb q1 0 (by omega)] at q3
    refine ⟨x, s1, q3, q4, hq.imp id ?_⟩
    rintro ⟨h, y, s2, q5, q6⟩
    rw [hb q1 1 (by omega)] at q5
    exact ⟨h, y, s2, q5, q6⟩
   obtain ⟨ok1, vb1, sh1⟩ := hk0.inv hok trivial
   have hl1 : s1.l = s.l := sh1.2.2.2
   have ok1s : OkW s1.sp := ⟨ok1.g, ok1.l, ok1.i⟩
   have hkn1 : KnE t (s1.sp.l.map Prod.fst) (kid e b 1) := by
    show KnE t (s1.l.map Prod.fst) _
    rw [hl1]
    exact hkn.kid
   have nc : ∀ {q : List Nd} {y : Int}, isN q = some y → ∀ n ∈ q, n.kind = 4 → CalOk t t' fr fr' N n.name := fun hq n hn h4 => by have := isN_mem hq n hn; omega
   -- not folded
   have plain : isN (F 0) = none → fold1 apN (rootN e) 2 F = joinF F 2 ++ [rootN e] := fun hi => by
    unfold fold1
    rw [if_neg (by omega), if_neg (by omega)]
    rcases h89 with h | h
    ·rw [if_pos h, hi]; simp [joinF]
    ·rw [if_neg (by omega), if_pos h, hi]; simp [joinF]
   cases hi0 : isN (F 0) with
   | none =>
    rw [plain hi0] at hcal ⊢
    have hr : rootN (joinF F 2 ++ [rootN e]) = rootN e := root_snoc _ _
    obtain ⟨b2, hc2, hk2⟩ := join_cut hgood hc.ar h1B
    obtain ⟨m1, z1, e1, l1, g1⟩ := ih 0 (by omega) (fun n hn => hcal n (List.mem_append_left _ (joinF_mem (by omega) hn))) n s x s1 d z (by omega) hk0 hok hkn.kid hls
    rw [← hk2 0 (by omega)] at e1
    rcases hrest with ⟨q1, rfl, rfl⟩ | ⟨q1, y, s2, q2, q3, rfl, rfl⟩
    ·exact ⟨m1 + 1, z1.sp, .lone m1 _ b2 z x z1 hc2 (by rw [hr]; exact q1) e1 (l1.pos hu1), l1.sp hu1, g1⟩
    ·obtain ⟨m2, z2, e2, l2, g2⟩ := ih 1 (by omega) (fun n hn => hcal n (List.mem_append_left _ (joinF_mem (by omega) hn))) n s1.sp y s2 d z1.sp (by omega) q2 ok1s hkn1 (l1.sp hu1)
     rw [← hk2 1 (by omega)] at e2
     exact ⟨max m1 m2 + 1, z2.sp, .both _ _ b2 z x z1 y z2 hc2 (by rw [hr]; exact q1) (e1.ups (Nat.le_max_left ..)) (l1.pos hu1) (e2.ups (Nat.le_max_right ..)) (l2.pos q3), l2.sp q3, g2.trans g1⟩
   | some x0 =>
    obtain ⟨m1, z1, e1, l1, g1⟩ := ih 0 (by omega) (nc hi0) n s x s1 d z (by omega) hk0 hok hkn.kid hls
    obtain ⟨rfl, rfl, hz⟩ := num_inv hi0 e1
    have l1' := (l1.back hz).sl hu1
    rcases hrest with ⟨q1, rfl, rfl⟩ | ⟨q1, y, s2, q2, q3, rfl, rfl⟩
    ·have er : fold1 apN (rootN e) 2 F = numN (boolN (decide (x ≠ 0))) := by
      unfold fold1
      rw [if_neg (by omega), if_neg (by omega)]
      rcases q1 with ⟨h, hx⟩ | ⟨h, hx⟩
      ·rw [if_pos h, hi0]; simp [hx, boolN]
      ·rw [if_neg (by omega), if_pos h, hi0]; simp [hx, boolN]
     rw [er]
     exact ⟨1, z.sp, num_ev t' fr' (bool_bd _) hz, (l1'.less (by omega)).dn, rfl⟩
    ·have er : fold1 apN (rootN e) 2 F = truthL (F 1) := by
      unfold fold1
      rw [if_neg (by omega), if_neg (by omega)]
      rcases q1 with ⟨h, hx⟩ | ⟨h, hx⟩
      ·rw [if_pos h, hi0]; simp [hx]
      ·rw [if_neg (by omega), if_pos h, hi0]; simp [hx]
     rw [er] at hcal ⊢
     have hcal1 : ∀ n ∈ F 1, n.kind = 4 → CalOk t t' fr fr' N n.name := by
      cases hi1 : isN (F 1) with
      | some _ => exact nc hi1
      | none =>
       intro n hn
       refine hcal n ?_
       unfold truthL
       rw [hi1]
       exact List.mem_append_left _ hn
     obtain ⟨m2, z2, e2, l2, g2⟩ := ih 1 (by omega) hcal1 n s1.sp y s2 (d + 1 + 1) z (by omega) q2 ok1s hkn1 l1'
     obtain ⟨ok2, vb2, sh2⟩ := q2.inv ok1s trivial
     obtain ⟨m3, z3, e3, h3⟩ := truth_ev e2 (h1B 1 (by omega)) (vb2 y (.inl rfl)) (fun _ => by have := l2.u; omega)
     refine ⟨m3, z3, e3, ?_, ?_⟩
     ·rcases h3 with rfl | rfl
      ·exact (l2.sl q3).less (by omega)
      ·exact ((l2.sl q3).less (show d + 1 + 1 ≤ d + 1 + 1 + 1 by omega)).dn.dn
     ·rcases h3 with rfl | rfl
      ·exact g2
      ·exact g2
  ·have h8 : (rootN e).kind ≠ 8 := fun h => h89 (.inl h)
   have h9 : (rootN e).kind ≠ 9 := fun h => h89 (.inr h)
   obtain ⟨A', b', st, vv, j, hc', rfl, hj, hkids, hend⟩ := ev_plain hev h8 h9
   obtain ⟨rfl, hb⟩ := hc.one hc'
   have hkb : ∀ i, i < A → kid e b' i = kid e b i := fun i hi => by
    unfold kid
    rw [hb i (by omega), hb (i + 1) (by omega)]
   have hjA : j = A ∧ 0 < (st A).u ∧ (((rootN e).kind ≠ 4 ∧ ER.val v = (wkN t (rootN e) vv (st A).sp).1 ∧ s' = (wkN t (rootN e) vv (st A).sp).2) ∨ ((rootN e).kind = 4 ∧ ∃ f, fnum t.funcs (rootN e).name = some f ∧ Ev t fr n (.c f (argL A vv)) (st A).sp (.val v) s')) := by
    rcases hend with ⟨-, c, q, -⟩ | ⟨-, -, q, -⟩ | ⟨q1, q2, q3, q4, q5⟩ | ⟨q1, q2, q3, q4⟩
    ·cases q
    ·cases q
    ·exact ⟨q1, q2, .inl ⟨q3, q4, q5⟩⟩
    ·exact ⟨q1, q2, .inr ⟨q3, q4⟩⟩
   obtain ⟨rfl, huA, hend⟩ := hjA
   clear hj
   have hst := chn (t := t) (fr := fr) (n := n) (e := e) (b := b') (st := st) (v := vv) (j := j) (fun i hi h0 => by obtain ⟨x1, x2, x3⟩ := (hkids i hi).inv h0 trivial; exact ⟨x1, x2 _ (.inl rfl), x3⟩) hok
   -- the operands, in both
   have run : (∀ i, i < j → ∀ n ∈ F i, n.kind = 4 → CalOk t t' fr fr' N n.name) → ∃ (m : Nat) (zt : Nat → ES), zt 0 = z ∧ (∀ i, i < j → Ev t' fr' m (.e (F i)) (zt i) (.val (vv i)) (zt (i + 1))) ∧ ∀ i, i ≤ j → LS t.globals d (st i) (zt i) ∧ (zt i).l = z.l := fun hcF => by
    refine kids_run j (fun i hi z2 hz2 => ?_) hls
    have hki := hkids i hi
    rw [hkb i hi] at hki
    refine ih i hi (hcF i hi) n (st i) (vv i) (st (i + 1)) d z2 (by omega) hki (hst i (by omega)).1 ?_ hz2
    rw [(hst i (by omega)).2.1.2.2.2]
    exact hkn.kid
   obtain ⟨okA, shA, vbA⟩ := hst j (Nat.le_refl _)
   have hlA : (st j).l = (st 0).l := shA.2.2.2
   have nc : ∀ {q : List Nd} {y : Int}, isN q = some y → ∀ n ∈ q, n.kind = 4 → CalOk t t' fr fr' N n.name := fun hq n hn h4 => by have := isN_mem hq n hn; omega
   -- the node stays
   have stay : fold1 apN (rootN e) j F = joinF F j ++ [rootN e] → ∃ m z', Ev t' fr' m (.e (fold1 apN (rootN e) j F)) z (.val v) z' ∧ LS t.globals d s' z' ∧ z'.l = z.l := fun er => by
    rw [er] at hcal ⊢
    have hr : rootN (joinF F j ++ [rootN e]) = rootN e := root_snoc _ _
    obtain ⟨b2, hc2, hk2⟩ := join_cut hgood hc.ar h1B
    obtain ⟨m, zt, e0, h1, h2⟩ := run (fun i hi n hn => hcal n (List.mem_append_left _ (joinF_mem hi hn)))
    subst e0
    have h1' : ∀ i, i < j → Ev t' fr' m (.e (kid (joinF F j ++ [rootN e]) b2 i)) (zt i) (.val (vv i)) (zt (i + 1)) := fun i hi => by rw [hk2 i hi]; exact h1 i hi
    obtain ⟨lsA, lA⟩ := h2 j (Nat.le_refl _)
    have hp := lsA.pos huA
    rcases hend with ⟨h4, q1, rfl⟩ | ⟨h4, f, q1, q2⟩
    ·obtain ⟨w1, w2, w3⟩ := (lsA.sp huA).work hg (n := rootN e) (v := vv) (by show nodeE t ((st j).l.map Prod.fst) _ = 0; rw [hlA]; exact hkn _ hrm) q1.symm
     have hw := Ev.work (t := t') (fr := fr') m _ j b2 zt vv hc2 (by rw [hr]; exact h8) (by rw [hr]; exact h9) (by rw [hr]; exact h4) h1' hp
     rw [hr, w1] at hw
     exact ⟨m + 1, _, hw, w2, w3.trans lA⟩
    ·obtain ⟨f', m2, z', p1, p2, p3, p4⟩ := hcal (rootN e) (by simp) h4 f q1 n (by omega) (argL j vv) (st j).sp v s' d (zt j).sp q2 ⟨okA.g, okA.l, okA.i⟩ (fun y hy => by
       obtain ⟨k, hk, rfl⟩ := List.mem_map.1 hy
       exact vbA k (List.mem_range.1 hk)) (fun hf => by
       obtain ⟨f2, g1, g2⟩ := node_call (hkn _ hrm) h4
       rw [q1] at g1
       cases g1
       have har := hc.ar
       simp only [arity, h4] at har
       simp only [List.getD, List.getElem?_eq_getElem hf, Option.getD_some] at g2
       simp [argL]
       simp at har
       omega) (lsA.sp huA)
     have hw := Ev.call (t := t') (fr := fr') (max m m2) _ j b2 zt vv f' (.val v) z' hc2 (by rw [hr]; exact h4) (by rw [hr]; exact p1) (fun i hi => (h1' i hi).ups (Nat.le_max_left ..)) hp (p2.ups (Nat.le_max_right ..))
     exact ⟨_, z', hw, p3, p4.trans lA⟩
   by_cases h6 : (rootN e).kind = 6
   ·have hA := hc.ar1 (.inr h6)
    subst hA
    cases hi0 : isN (F 0) with
    | none => exact stay (by unfold fold1; rw [if_pos h6, hi0]; simp [joinF])
    | some x =>
     obtain ⟨m, zt, e0, h1, h2⟩ := run (fun i hi => by
      obtain rfl : i = 0 := by omega
      exact nc hi0)
     subst e0
     obtain ⟨q1, q2, q3⟩ := num_inv hi0 (h1 0 (by omega))
     have er : fold1 apN (rootN e) 1 F = numN (unN (rootN e).val x) := by unfold fold1; rw [if_pos h6, hi0]
     rw [er]
     rcases hend with ⟨h4, p1, rfl⟩ | ⟨h4, -⟩
     ·simp only [wkN, h6] at p1 ⊢
      simp at p1 ⊢
      rw [p1, q1]
      have l2 := (h2 1 (Nat.le_refl _)).1
      rw [q2] at l2
      exact ⟨1, (zt 0).sp, num_ev t' fr' (un_bd _ _) q3, ((l2.back q3).sl huA).less (by omega) |>.dn, rfl⟩
     ·omega
   ·by_cases h7 : (rootN e).kind = 7
    ·have hA := hc.ar2 (.inl h7)
     subst hA
     cases hi0 : isN (F 0) with
     | none => exact stay (by unfold fold1; rw [if_neg h6, if_pos h7, hi0]; simp [joinF])
     | some x =>
      cases hi1 : isN (F 1) with
      | none => exact stay (by unfold fold1; rw [if_neg h6, if_pos h7, hi0, hi1]; simp [joinF])
      | some y =>
       obtain ⟨m, zt, e0, h1, h2⟩ := run (fun i hi => by
        have : i = 0 ∨ i = 1 := by omega
        rcases this with rfl | rfl
        ·exact nc hi0
        ·exact nc hi1)
       subst e0
       obtain ⟨q1, q2, q3⟩ := num_inv hi0 (h1 0 (by omega))
       obtain ⟨p1, p2, p3⟩ := num_inv hi1 (h1 1 (by omega))
       have er : fold1 apN (rootN e) 2 F = numN (apN (rootN e).val x y) := by unfold fold1; rw [if_neg h6, if_pos h7, hi0, hi1]
       rw [er]
       rcases hend with ⟨h4, g1, rfl⟩ | ⟨h4, -⟩
       ·simp only [wkN, h7] at g1 ⊢
        simp at g1 ⊢
        rw [g1, q1, p1]
        have l2 := (h2 2 (Nat.le_refl _)).1
        rw [p2, q2] at l2
        rw [q2] at p3
        exact ⟨1, (zt 0).sp, num_ev t' fr' (ap_bd _ _ _) q3, (((l2.back p3).back q3).sl huA).less (by omega) |>.dn, rfl⟩
       ·omega
    ·exact stay (by unfold fold1; rw [if_neg h6, if_neg h7, if_neg h8, if_neg h9])
theorem Fd.from {e r : List Nd} (h : Fd apN e r) : ∀ n ∈ r, n ∈ e ∨ n.kind = 1 ∨ n.kind = 7 := by
 have tl : ∀ {q : List Nd} {n : Nd}, n ∈ truthL q → n ∈ q ∨ n.kind = 1 ∨ n.kind = 7 := by
  intro q n hn
  unfold truthL at hn
  split at hn
  ·simp [numN] at hn; rw [hn]; exact .inr (.inl rfl)
  ·simp at hn
   rcases hn with hn | rfl | rfl
   ·exact .inl hn
   ·exact .inr (.inl rfl)
   ·exact .inr (.inr rfl)
 have nn : ∀ {x : Int} {n : Nd} {e : List Nd}, n ∈ numN x → n ∈ e ∨ n.kind = 1 ∨ n.kind = 7 := by
  intro x n e hn
  simp [numN] at hn
  rw [hn]
  exact .inr (.inl rfl)
 induction h using Fd_i with
 | mk e A b F hc hF ih =>
  have hrm : rootN e ∈ e := rootN_mem hc.len
  have kd : ∀ i, i < A → ∀ n ∈ F i, n ∈ e ∨ n.kind = 1 ∨ n.kind = 7 := fun i hi n hn => by
   rcases ih i hi n hn with h | h
   ·exact .inl (mem_kid h)
   ·exact .inr h
  have jn : ∀ j, j ≤ A → ∀ n ∈ joinF F j, n ∈ e ∨ n.kind = 1 ∨ n.kind = 7 := by
   intro j
   induction j with
   | zero => intro _ n hn; simp [joinF] at hn
   | succ j ihj =>
    intro hj n hn
    simp only [joinF, List.mem_append] at hn
    rcases hn with hn | hn
    ·exact ihj (by omega) n hn
    ·exact kd j (by omega) n hn
  have js : ∀ n ∈ joinF F A ++ [rootN e], n ∈ e ∨ n.kind = 1 ∨ n.kind = 7 := fun n hn => by
   rcases List.mem_append.1 hn with hn | hn
   ·exact jn A (Nat.le_refl _) n hn
   ·simp at hn; rw [hn]; exact .inl hrm
  intro n hn
  unfold fold1 at hn
  split at hn
  ·rename_i h6
   have hA := hc.ar1 (.inr h6)
   subst hA
   split at hn
   ·exact nn hn
   ·exact js n (by simpa [joinF] using hn)
  ·split at hn
   ·rename_i h7
    have hA := hc.ar2 (.inl h7)
    subst hA
    split at hn
    ·exact nn hn
    ·exact js n (by simpa [joinF] using hn)
   ·split at hn
    ·rename_i h8
     have hA := hc.ar2 (.inr (.inl h8))
     subst hA
     split at hn
     ·split at hn
      ·exact nn hn
      ·rcases tl hn with h | h
       ·exact kd 1 (by omega) n h
       ·exact .inr h
     ·exact js n (by simpa [joinF] using hn)
    ·split at hn
     ·rename_i h9
      have hA := hc.ar2 (.inr (.inr h9))
      subst hA
      split at hn
      ·split at hn
       ·rcases tl hn with h | h
        ·exact kd 1 (by omega) n h
        ·exact .inr h
       ·exact nn hn
      ·exact js n (by simpa [joinF] using hn)
     ·exact js n hn
theorem fd_num {x : Int} (hx : inB x) : Fd apN (numN x) (numN x) := by
 have := push_fd apN [] ⟨1, x, ⟨#[]⟩⟩ (by unfold nodeB; simp only [if_true, Bool.and_eq_true, decide_eq_true_eq]; exact ⟨hx, by simp⟩) rfl (fun s hs => by simp at hs) (fun _ => []) (fun i hi => by simp at hi)
 simpa [fold1, joinF, numN] using this
theorem Fd.idem {e r : List Nd} (h : Fd apN e r) : Fd apN r r := by
 induction h using Fd_i with
 | mk e A b F hc hF ih =>
  have h1B : ∀ i, i < A → Go.Proofs.YtolkpkklinoegaaDoor.oneB (F i) = true := fun i hi => (hF i hi).oneB
  have stay : fold1 apN (rootN e) A F = joinF F A ++ [rootN e] → Fd apN (fold1 apN (rootN e) A F) (fold1 apN (rootN e) A F) := fun er => by
   have := push_fd apN ((List.range A).map F) (rootN e) hc.root_good (by simpa using hc.ar) (fun s hs => by
    obtain ⟨i, hi, rfl⟩ := List.mem_map.1 hs
    exact h1B i (List.mem_range.1 hi)) F (fun i hi => by simp at hi ⊢; exact ih i hi)
   rw [← joinF_flat] at this
   simp only [List.length_map, List.length_range] at this
   rw [er] at this ⊢
   exact this
  have tr : ∀ {q : List Nd}, Fd apN q q → Go.Proofs.YtolkpkklinoegaaDoor.oneB q = true → Fd apN (truthL q) (truthL q) := fun {q} h h1 => by
   unfold truthL
   split
   ·exact fd_num (bool_bd _)
   ·rename_i hn
    have := push_fd apN [q, numN 0] ⟨7, 12, ⟨#[]⟩⟩ (by unfold nodeB; simp) rfl (fun s hs => by
     simp at hs
     rcases hs with rfl | rfl
     ·exact h1
     ·exact oneB_num ⟨by decide, by decide⟩) (fun i => if i = 0 then q else numN 0) (fun i hi => by
     simp at hi
     have : i = 0 ∨ i = 1 := by omega
     rcases this with rfl | rfl
     ·simpa using h
     ·simpa using fd_num ⟨by decide, by decide⟩)
    simpa [fold1, hn, numN] using this
  unfold fold1 at stay ⊢
  split
  ·rename_i h6
   have hA := hc.ar1 (.inr h6)
   subst hA
   rw [if_pos h6] at stay
   split
   ·exact fd_num (un_bd _ _)
   ·rename_i hi
    rw [hi] at stay
    exact stay (by simp [joinF])
  ·rename_i h6
   rw [if_neg h6] at stay
   split
   ·rename_i h7
    have hA := hc.ar2 (.inl h7)
    subst hA
    rw [if_pos h7] at stay
    cases hi0 : isN (F 0) with
    | none =>
     rw [hi0] at stay
     exact stay (by simp [joinF])
    | some x =>
     cases hi1 : isN (F 1) with
     | none =>
      rw [hi0, hi1] at stay
      exact stay (by simp [joinF])
     | some y => exact fd_num (ap_bd _ _ _)
   ·rename_i h7
    rw [if_neg h7] at stay
    split
    ·rename_i h8
     have hA := hc.ar2 (.inr (.inl h8))
     subst hA
     rw [if_pos h8] at stay
     split
     ·split
      ·exact fd_num ⟨by decide, by decide⟩
      ·exact tr (ih 1 (by omega)) (h1B 1 (by omega))
     ·rename_i hi
      rw [hi] at stay
      exact stay (by simp [joinF])
    ·rename_i h8
     rw [if_neg h8] at stay
     split
     ·rename_i h9
      have hA := hc.ar2 (.inr (.inr h9))
      subst hA
      rw [if_pos h9] at stay
      split
      ·split
       ·exact tr (ih 1 (by omega)) (h1B 1 (by omega))
       ·exact fd_num ⟨by decide, by decide⟩
      ·rename_i hi
       rw [hi] at stay
       exact stay (by simp [joinF])
     ·rename_i h9
      rw [if_neg h9] at stay
      exact stay rfl
end
section
open Go.RowKit
def xS : ByteArray := ⟨#[120]⟩
def setX (c : Int) : St := ⟨2, xS, [⟨1, c, ⟨#[]⟩⟩], [], 0, 0⟩
def retE (e : List Nd) : St := ⟨6, ⟨#[]⟩, e, [], 0, 0⟩
def treeF (gs : List Gl) (c : Int) (e : List Nd) : Tr := ⟨gs, [⟨mainS, [], [setX c, retE e]⟩]⟩
theorem treeF_main (gs : List Gl) (c : Int) (e : List Nd) : fnum (treeF gs c e).funcs mainS = some 0 := by
 simp [treeF, fnum]
theorem treeF_names (gs : List Gl) (c : Int) (e r : List Nd) : namesE (treeF gs c r) = namesE (treeF gs c e) := by
 unfold namesE
 rw [treeF_main, treeF_main]
 rfl
theorem treeF_stmts {gs : List Gl} {c : Int} {e : List Nd} : (bodiesE (treeF gs c e) 0 (treeF gs c e).funcs).1 = 0 ↔ (stmtE (treeF gs c e) [] [] (setX c) = 0 ∧ stmtE (treeF gs c e) [] [] (retE e) = 0) := by
 have hb : (blkE (treeF gs c e) [setX c, retE e] 0 [] []).1 = 0 ↔ (stmtE (treeF gs c e) [] [] (setX c) = 0 ∧ stmtE (treeF gs c e) [] [] (retE e) = 0) := by
  have nl : ∀ a, blkE (treeF gs c e) [] a [] [] = (0, 0, []) := fun a => by (first | rw [blkE_cons] | rw [blkE_nil0])
  by_cases h1 : stmtE (treeF gs c e) [] [] (setX c) = 0
  ·have h2 : blkE (treeF gs c e) [setX c, retE e] 0 [] [] = blkE (treeF gs c e) [retE e] (0 + 1 + 0 + 0) [] [] := by
    have k1 : (setX c).kind = 2 := rfl
    have k2 : (setX c).thn = 0 := rfl
    have k3 : (setX c).els = 0 := rfl
    (first | rw [blkE_cons] | rw [blkE_nil0])
    simp [h1, k1, k2, k3, nl]
   rw [h2]
   by_cases h3 : stmtE (treeF gs c e) [] [] (retE e) = 0
   ·have k1 : (retE e).kind = 6 := rfl
    have k2 : (retE e).thn = 0 := rfl
    have k3 : (retE e).els = 0 := rfl
    (first | rw [blkE_cons] | rw [blkE_nil0])
    simp [h1, h3, k1, k2, k3, nl]
   ·(first | rw [blkE_cons] | rw [blkE_nil0])
    simp [h3]
  ·(first | rw [blkE_cons] | rw [blkE_nil0])
   simp [h1]
 have e1 : bodiesE (treeF gs c e) 0 (treeF gs c e).funcs = bodyE (treeF gs c e) 0 ⟨mainS, [], [setX c, retE e]⟩ ∨ ((bodyE (treeF gs c e) 0 ⟨mainS, [], [setX c, retE e]⟩).1 = 0 ∧ bodiesE (treeF gs c e) 0 (treeF gs c e).funcs = (0, -1, -1)) := by
  show bodiesE (treeF gs c e) 0 [⟨mainS, [], [setX c, retE e]⟩] = _ ∨ (_ ∧ bodiesE (treeF gs c e) 0 [⟨mainS, [], [setX c, retE e]⟩] = _)
  simp only [bodiesE]
  by_cases h : (bodyE (treeF gs c e) 0 ⟨mainS, [], [setX c, retE e]⟩).1 = 0
  ·exact .inr ⟨h, by rw [if_neg (by simpa using h)]⟩
  ·exact .inl (by rw [if_pos h])
 have e2 : (bodyE (treeF gs c e) 0 ⟨mainS, [], [setX c, retE e]⟩).1 = 0 ↔ (blkE (treeF gs c e) [setX c, retE e] 0 [] []).1 = 0 := by
  unfold bodyE
  simp only [dupP]
  by_cases h : (blkE (treeF gs c e) [setX c, retE e] 0 [] []).1 = 0
  ·simp [h]
  ·simp [h]
 rw [← hb, ← e2]
 rcases e1 with h | ⟨h1, h2⟩
 ·rw [h]
 ·rw [h2, h1]
theorem treeF_tree {gs : List Gl} {c : Int} {e r : List Nd} (h : treeB (treeF gs c e) = true) (hr : oneB r = true) (hl : r.length ≤ e.length) : treeB (treeF gs c r) = true := by
 simp only [treeB, treeF, List.all_cons, List.all_nil, funcB, stmtsB, nodeSum, Bool.and_eq_true, decide_eq_true_eq, Bool.and_true] at h ⊢
 obtain ⟨a1, a2, a3, a4, a5, a6, a7, ⟨a8, a9, a10⟩, a11⟩ := h
 refine ⟨a1, a2, a3, a4, a5, a6, a7, ⟨?_, a9, ?_⟩, ?_⟩
 ·have q : (1 + 0) + (e.length + 0 + 0) ≤ 2000 := of_decide_eq_true a8
  refine decide_eq_true ?_
  show (1 + 0) + (r.length + 0 + 0) ≤ 2000
  omega
 ·simp [stmtB, retE, hr]
 ·rw [← a11]
  rfl
theorem treeF_check {gs : List Gl} {c : Int} {e r : List Nd} (h : (checkE (treeF gs c e)).1 = 0) (hf : Fd apN e r) : (checkE (treeF gs c r)).1 = 0 ∧ (∀ n ∈ e, n.kind ≠ 4) ∧ KnE (treeF gs c e) [] e := by
 obtain ⟨ht, hn, -⟩ := sound_snd h
 have hb : (bodiesE (treeF gs c e) 0 (treeF gs c e).funcs).1 = 0 := by
  by_cases hb : (bodiesE (treeF gs c e) 0 (treeF gs c e).funcs).1 = 0
  ·exact hb
  ·unfold checkE at h
   rw [if_neg (by simp [ht]), if_neg (by simpa using hn), if_pos hb] at h
   exact h
 have hac : ∀ x, 0 ≤ x → x < 0 + 1 → (x = 0 ∨ Rch (treeF gs c e) 0 x) → ¬ Rch (treeF gs c e) x x := by
  unfold checkE at h
  rw [if_neg (by simp [ht]), if_neg (by simpa using hn), if_neg (by simpa using hb), treeF_main] at h
  exact circE_acyc 1 0 h
 obtain ⟨s1, s2⟩ := treeF_stmts.1 hb
 have hk : KnE (treeF gs c e) [] e := by
  have : exprE (treeF gs c e) [] (e ++ []) = 0 := by
   by_cases hx : exprE (treeF gs c e) [] (e ++ []) = 0
   ·exact hx
   ·unfold stmtE at s2
    rw [if_pos (by exact hx)] at s2
    exact s2
  rw [List.append_nil] at this
  exact exprE_all this
 have n4 : ∀ n ∈ e, n.kind ≠ 4 := fun n hn h4 => by
  obtain ⟨f, q1, -⟩ := node_call (hk n hn) h4
  have hf0 : f = 0 := by have := fnum_lt q1; simp [treeF] at this; exact this
  subst hf0
  refine hac 0 (Nat.le_refl _) (by omega) (.inl rfl) (.one ⟨by simp [treeF], ?_⟩)
  unfold callsL
  simp only [List.mem_filter, List.mem_range, decide_eq_true_eq]
  refine ⟨by simp [treeF], ?_⟩
  unfold callN
  rw [List.mem_filterMap]
  refine ⟨n, ?_, by simp [h4, q1]⟩
  simp [treeF, nodesOf, setX, retE, hn]
 refine ⟨?_, n4, hk⟩
 have r4 : ∀ n ∈ r, n.kind ≠ 4 := fun n hn h4 => by
  rcases hf.from n hn with h | h | h
  ·exact n4 n h h4
  ·omega
  ·omega
 have ht' := treeF_tree ht hf.oneB hf.len
 have hn' : (namesE (treeF gs c r)).1 = 0 := by rw [treeF_names gs c e r]; exact hn
 have nd : ∀ n : Nd, n.kind ≠ 4 → nodeE (treeF gs c r) [] n = nodeE (treeF gs c e) [] n := fun n h4 => by
  unfold nodeE
  rw [if_neg h4, if_neg h4]
  rfl
 have hb' : (bodiesE (treeF gs c r) 0 (treeF gs c r).funcs).1 = 0 := by
  refine treeF_stmts.2 ⟨?_, ?_⟩
  ·have : stmtE (treeF gs c r) [] [] (setX c) = stmtE (treeF gs c e) [] [] (setX c) := by
    simp [stmtE, setX, exprE, nodeE, treeF]
   rw [this]
   exact s1
  ·have : exprE (treeF gs c r) [] (r ++ []) = 0 := by
    rw [List.append_nil]
    refine exprE_zero fun j hj => ?_
    have hm := List.getElem_mem hj
    rw [nd _ (r4 _ hm)]
    rcases hf.from _ hm with h | h | h
    ·exact hk _ h
    ·simp [nodeE, h]
    ·simp [nodeE, h]
   unfold stmtE
   rw [if_neg (by simpa [retE] using this)]
   simp [retE]
 have hc' : (circE (treeF gs c r) 0 0 1).1 = 0 := by
  have no : ∀ f g, ¬ CallR (treeF gs c r) f g := fun f g hh => by
   obtain ⟨q1, q2⟩ := hh
   have hf0 : f = 0 := by simpa [treeF] using q1
   subst hf0
   unfold callsL at q2
   simp only [List.mem_filter, List.mem_range, decide_eq_true_eq] at q2
   obtain ⟨-, q2⟩ := q2
   unfold callN at q2
   rw [List.mem_filterMap] at q2
   obtain ⟨n, q3, q4⟩ := q2
   simp [treeF, nodesOf, setX, retE] at q3
   split at q4
   ·rename_i h4
    rcases q3 with rfl | q3
    ·simp at h4
    ·exact r4 n q3 h4
   ·cases q4
  have nr : ¬ Rch (treeF gs c r) 0 0 := fun hh => by
   cases hh using Rch_i with
   | one h => exact no _ _ h
   | step _ h => exact no _ _ h
  simp [circE, nr]
 unfold checkE
 rw [if_neg (by simp [ht']), if_neg (by simpa using hn'), if_neg (by simpa using hb'), treeF_main]
 exact hc'
end
section
open Go.RowKit
def gsF : List Gl := [⟨⟨#[103]⟩, 0⟩, ⟨⟨#[104]⟩, 0⟩, ⟨⟨#[120]⟩, 0⟩, ⟨⟨#[97]⟩, 8⟩, ⟨⟨#[98]⟩, 2⟩]
theorem nodes_nil (W : World) : Nodes W (.slice none 0 0) [] := ⟨none, 0, rfl, Nat.le_refl _, by omega, fun h => absurd h (by simp)⟩
theorem stm_mem {W : World} {b4 b2 : Nat} {ve : Value} {e : List Nd} {c : Int} (h : FrC W b4 [.int .i64 2, .string xS, .slice (some ⟨b2, 0, none⟩) 1 1, .slice none 0 0, .int .i64 0, .int .i64 0, .int .i64 6, .string ⟨#[]⟩, ve, .slice none 0 0, .int .i64 0, .int .i64 0]) (h2 : FrC W b2 [.int .i64 1, .int .i64 c, .string ⟨#[]⟩]) (hN : Nodes W ve e) : Stmts W (.slice (some ⟨b4, 0, none⟩) 2 2) [setX c, retE e] := by
 refine ⟨_, 2, rfl, by simp, by omega, fun _ => ⟨b4, 0, rfl, fun j hj => ?_⟩⟩
 have : j = 0 ∨ j = 1 := by simp at hj; omega
 rcases this with rfl | rfl
 ·refine ⟨.slice (some ⟨b2, 0, none⟩) 1 1, .slice none 0 0, ⟨(h 0 _ rfl).1, (h 1 _ rfl).1, (h 2 _ rfl).1, (h 3 _ rfl).1, (h 4 _ rfl).1, (h 5 _ rfl).1⟩, ?_, nodes_nil W⟩
  refine ⟨_, 1, rfl, by simp [setX], by omega, fun _ => ⟨b2, 0, rfl, fun j hj => ?_⟩⟩
  have : j = 0 := by simpa [setX] using hj
  subst this
  exact ⟨(h2 0 _ rfl).1, (h2 1 _ rfl).1, (h2 2 _ rfl).1⟩
 ·exact ⟨ve, .slice none 0 0, ⟨(h 6 _ rfl).1, (h 7 _ rfl).1, (h 8 _ rfl).1, (h 9 _ rfl).1, (h 10 _ rfl).1, (h 11 _ rfl).1⟩, hN, nodes_nil W⟩
theorem fun_mem {W : World} {b5 : Nat} {v : Value} {gs : List Gl} {e : List Nd} {c : Int} (h : FrC W b5 [.string mainS, .slice none 0 0, v]) (hs : Stmts W v [setX c, retE e]) : Funcs W (.slice (some ⟨b5, 0, none⟩) 1 1) (treeF gs c e).funcs := by
 refine ⟨_, 1, rfl, by simp [treeF], by omega, fun _ => ⟨b5, 0, rfl, fun j hj => ?_⟩⟩
 have : j = 0 := by simpa [treeF] using hj
 subst this
 exact ⟨.slice none 0 0, v, ⟨(h 0 _ rfl).1, (h 1 _ rfl).1, (h 2 _ rfl).1⟩, ⟨none, 0, rfl, Nat.le_refl _, by omega, fun h => absurd h (by simp [treeF])⟩, hs⟩
theorem glb_mem {W : World} {b : Nat} (h : FrC W b [.string ⟨#[103]⟩, .int .i64 0, .string ⟨#[104]⟩, .int .i64 0, .string ⟨#[120]⟩, .int .i64 0, .string ⟨#[97]⟩, .int .i64 8, .string ⟨#[98]⟩, .int .i64 2]) : Globs W (.slice (some ⟨b, 0, none⟩) 5 5) gsF := by
 refine ⟨_, 5, rfl, by simp [gsF], by omega, fun _ => ⟨b, 0, rfl, fun j hj => ?_⟩⟩
 have : j = 0 ∨ j = 1 ∨ j = 2 ∨ j = 3 ∨ j = 4 := by simp [gsF] at hj; omega
 rcases this with rfl | rfl | rfl | rfl | rfl
 ·exact ⟨(h 0 _ rfl).1, (h 1 _ rfl).1⟩
 ·exact ⟨(h 2 _ rfl).1, (h 3 _ rfl).1⟩
 ·exact ⟨(h 4 _ rfl).1, (h 5 _ rfl).1⟩
 ·exact ⟨(h 6 _ rfl).1, (h 7 _ rfl).1⟩
 ·exact ⟨(h 8 _ rfl).1, (h 9 _ rfl).1⟩
theorem in_mem {W : World} {b : Nat} (l : List Int) (hl : l.length ≤ 1000) (h : FrC W b (l.map (Value.int .i64))) : InN W (.slice (some ⟨b, 0, none⟩) l.length l.length) l := by
 refine ⟨_, _, rfl, Nat.le_refl _, by omega, fun _ => ⟨b, 0, rfl, fun j hj => ?_⟩⟩
 rw [Nat.zero_add]
 exact (h j _ (by simp [hj])).1
theorem inn_below {w w' : World} {v : Value} {l : List Int} (h : InN w v l) (hb : Below w.heap.size w w') : InN w' v l := by
 obtain ⟨a, c, e, h1, h2, h3⟩ := h
 refine ⟨a, c, e, h1, h2, fun hp => ?_⟩
 obtain ⟨b, off, ha, hc⟩ := h3 hp
 exact ⟨b, off, ha, fun j hj => (hb.cell (p := ⟨b, _, none⟩) (World.block_lt_of_cell? _ _ (hc j hj))).trans (hc j hj)⟩
end
section
open Go.RowKit
theorem ev_c {t : Tr} {fr : List Int} {n f : Nat} {vs : List Int} {s : ES} {r : ER} {s' : ES} (h : Ev t fr n (.c f vs) s r s') : ∃ (m : Nat) (hf : f < t.funcs.length) (rb : ER) (z : ES), r = rb.back ∧ s' = { z with l := s.l, n := z.n - fr.getD f 0 } ∧ Ev t fr m (.bl t.funcs[f].body) { s with l := parL t.funcs[f] vs, n := s.n + fr.getD f 0, d := max s.d (s.n + fr.getD f 0) } rb z := by
 cases h using Ev_i with
 | run m _ _ _ hf rb z h1 => exact ⟨m, hf, rb, z, rfl, rfl, h1⟩
theorem ev_bl {t : Tr} {fr : List Int} {n : Nat} {ss : List St} {s : ES} {r : ER} {s' : ES} (h : Ev t fr n (.bl ss) s r s') : ∃ (m : Nat) (z : ES), s' = { z with l := z.l.take s.l.length } ∧ Ev t fr m (.sq ss) s r z := by
 cases h using Ev_i with
 | blk m _ _ _ z h1 => exact ⟨m, z, rfl, h1⟩
theorem ev_sq {t : Tr} {fr : List Int} {n : Nat} {s : St} {q : List St} {z : ES} {r : ER} {z' : ES} (h : Ev t fr n (.sq (s :: q)) z r z') : (z.u = 0 ∧ r = .out 2 ∧ z' = z) ∨ ∃ m, 0 < z.u ∧ ((r ≠ .on ∧ Ev t fr m (.p s (q.take s.thn.toNat) ((q.drop s.thn.toNat).take s.els.toNat)) z.sp r z') ∨ ∃ z1, Ev t fr m (.p s (q.take s.thn.toNat) ((q.drop s.thn.toNat).take s.els.toNat)) z.sp .on z1 ∧ Ev t fr m (.sq (q.drop (s.thn.toNat + s.els.toNat))) z1 r z') := by
 cases h using Ev_i with
 | sdry _ _ _ _ h1 => exact .inl ⟨h1, rfl, rfl⟩
 | send m _ _ _ _ _ h1 h2 h3 => exact .inr ⟨m, h1, .inl ⟨h3, h2⟩⟩
 | next m _ _ _ z1 _ _ h1 h2 h3 => exact .inr ⟨m, h1, .inr ⟨z1, h2, h3⟩⟩
theorem ev_sq0 {t : Tr} {fr : List Int} {n : Nat} {z : ES} {r : ER} {z' : ES} (h : Ev t fr n (.sq []) z r z') : r = .on ∧ z' = z := by
 cases h using Ev_i with
 | nil m _ => exact ⟨rfl, rfl⟩
theorem ev_p2 {t : Tr} {fr : List Int} {n : Nat} {s : St} {a b : List St} {z : ES} {r : ER} {z' : ES} (h : Ev t fr n (.p s a b) z r z') (hk : s.kind = 2) : (∃ c, r = .out c) ∨ ∃ m v z1, Ev t fr m (.e s.e) z (.val v) z1 ∧ r = .on ∧ z' = z1.wr t s.name v := by
 cases h using Ev_i with
 | pbad m _ _ _ _ c _ h1 => exact .inl ⟨c, rfl⟩
 | set m _ _ _ _ v z1 h1 h2 => exact .inr ⟨m, v, z1, h2, rfl, rfl⟩
 | _ => omega
theorem ev_p6 {t : Tr} {fr : List Int} {n : Nat} {s : St} {a b : List St} {z : ES} {r : ER} {z' : ES} (h : Ev t fr n (.p s a b) z r z') (hk : s.kind = 6) : (∃ c, r = .out c) ∨ ∃ m v, Ev t fr m (.e s.e) z (.val v) z' ∧ r = .ret v := by
 cases h using Ev_i with
 | pbad m _ _ _ _ c _ h1 => exact .inl ⟨c, rfl⟩
 | retn m _ _ _ _ v _ h1 h2 => exact .inr ⟨m, v, h2, rfl⟩
 | _ => omega
theorem LS.refl {gs : List Gl} {s : ES} (h : s.l = []) : LS gs 0 s s := ⟨rfl, rfl, rfl, Nat.le_refl _, fun _ _ => rfl, fun x hx => by rw [h] at hx; cases hx⟩
theorem fold_runs {gs : List Gl} {c : Int} {e q : List Nd} {fr : List Int} {n : Nat} {s : ES} {v : Int} {s' : ES} (hck : (checkE (treeF gs c e)).1 = 0) (hf : Fd apN e q) (hc : inB c) (hok : OkW s) (h : Ev (treeF gs c e) fr n (.c 0 []) s (.val v) s') : ∃ m z', Ev (treeF gs c q) fr m (.c 0 []) s (.val v) z' ∧ s'.u ≤ z'.u := by
 obtain ⟨-, h4, hkn⟩ := treeF_check hck hf
 obtain ⟨m1, hl, rb, z, hrb, rfl, h1⟩ := ev_c h
 obtain ⟨m2, z2, rfl, h2⟩ := ev_bl h1
 obtain ⟨z0, hz0⟩ : ∃ z0 : ES, z0 = { s with l := parL (treeF gs c e).funcs[0] [], n := s.n + fr.getD 0 0, d := max s.d (s.n + fr.getD 0 0) } := ⟨_, rfl⟩
 rw [← hz0] at h2
 have hl0 : z0.l = [] := by rw [hz0]; rfl
 have ok0 : OkW z0 := by rw [hz0]; exact ⟨hok.g, (fun x hx => by cases hx), hok.i⟩
 have hnb : ∀ {r : ER}, r.back = .val v → r = .on ∧ v = 0 ∨ r = .ret v ∨ r = .val v := fun {r} hr => by
  cases r using ER.cs <;> simp [ER.back] at hr <;> simp [hr]
 -- the first statement
 rcases ev_sq h2 with ⟨-, hr, -⟩ | ⟨m3, hu0, h3⟩
 ·rw [hr] at hrb; cases hrb
 have h3' : ∃ z1, Ev (treeF gs c e) fr m3 (.p (setX c) [] []) z0.sp .on z1 ∧ Ev (treeF gs c e) fr m3 (.sq [retE e]) z1 rb z2 := by
  rcases h3 with ⟨hne, h3⟩ | ⟨z1, h3, h5⟩
  ·rcases ev_p2 h3 rfl with ⟨d, hr⟩ | ⟨_, _, _, _, hr, _⟩
   ·rw [hr] at hrb; cases hrb
   ·exact absurd hr hne
  ·exact ⟨z1, h3, h5⟩
 obtain ⟨z1, h3, h5⟩ := h3'
 rcases ev_p2 h3 rfl with ⟨d, hr⟩ | ⟨m5, v1, y1, h6, -, rfl⟩
 ·cases hr
 obtain ⟨rfl, rfl, hu1⟩ := num_inv (x := c) (by show isN [⟨1, c, ⟨#[]⟩⟩] = some c; simp [isN]) h6
 obtain ⟨z3, hz3⟩ : ∃ z3, z3 = z0.sp.sp.wr (treeF gs v1 e) xS v1 := ⟨_, rfl⟩
 have hz3' : z0.sp.sp.wr (treeF gs v1 e) (setX v1).name v1 = z3 := hz3.symm
 rw [hz3'] at h5
 rcases ev_sq h5 with ⟨-, hr, -⟩ | ⟨m6, hu3, h7⟩
 ·rw [hr] at hrb; cases hrb
 have h7' : Ev (treeF gs v1 e) fr m6 (.p (retE e) [] []) z3.sp rb z2 := by
  rcases h7 with ⟨-, h7⟩ | ⟨z4, h7, -⟩
  ·exact h7
  ·rcases ev_p6 h7 rfl with ⟨d, hr⟩ | ⟨_, _, _, hr⟩
   ·cases hr
   ·cases hr
 rcases ev_p6 h7' rfl with ⟨d, hr⟩ | ⟨m7, v7, h8, rfl⟩
 ·rw [hr] at hrb; cases hrb
 cases hrb
 have hl3 : z3.l = [] := by
  have := (@wr_sh _ (treeF gs v1 e) z0.sp.sp xS v1).2.2.1
  rw [← hz3] at this
  have e0 : z0.sp.sp.l = [] := hl0
  rw [e0] at this
  simpa using this
 have ok3 : OkW z3.sp := by
  have : OkW z3 := by rw [hz3]; exact wr_ok (s := z0.sp.sp) ⟨ok0.g, ok0.l, ok0.i⟩ _ hc
  exact ⟨this.g, this.l, this.i⟩
 obtain ⟨m8, y, h9, h10, h11⟩ := fold_ev (t := treeF gs v1 e) (t' := treeF gs v1 q) (fr := fr) (fr' := fr) rfl m7 hf (fun n hn hk => by
  rcases hf.from n hn with h | h | h
  ·exact absurd hk (h4 n h)
  ·omega
  ·omega) m7 z3.sp v z2 0 z3.sp (Nat.le_refl _) h8 ok3 (by rw [show z3.sp.l = [] from hl3]; exact hkn) (LS.refl (show z3.sp.l = [] from hl3))
 have g1 : Ev (treeF gs v1 q) fr (m8 + 1) (.p (retE q) [] []) z3.sp (.ret v) y := .retn m8 (retE q) [] [] z3.sp v y rfl h9
 have g2 : Ev (treeF gs v1 q) fr (m8 + 2) (.sq [retE q]) z3 (.ret v) y := .send (m8 + 1) (retE q) [] z3 (.ret v) y hu3 g1 (fun e => by cases e)
 have g3 : Ev (treeF gs v1 q) fr 1 (.e [⟨1, v1, ⟨#[]⟩⟩]) z0.sp (.val v1) z0.sp.sp := num_ev _ _ hc hu1
 have g4 : Ev (treeF gs v1 q) fr 2 (.p (setX v1) [] []) z0.sp .on z3 := by
  have := Ev.set (t := treeF gs v1 q) (fr := fr) 1 (setX v1) [] [] z0.sp v1 z0.sp.sp rfl g3
  rw [hz3]
  exact this
 have g5 : Ev (treeF gs v1 q) fr (m8 + 3) (.sq [setX v1, retE q]) z0 (.ret v) y := .next (m8 + 2) (setX v1) [retE q] z0 z3 (.ret v) y hu0 (g4.ups (by omega)) g2
 have g6 := Ev.blk (t := treeF gs v1 q) (fr := fr) (m8 + 3) [setX v1, retE q] z0 (.ret v) y g5
 have g7 := Ev.run (t := treeF gs v1 q) (fr := fr) (m8 + 4) 0 [] s (by simp [treeF]) (.ret v) _ (by rw [hz0] at g6; exact g6)
 exact ⟨_, _, g7, by have := h10.u; show z2.u ≤ y.u; omega⟩
end
end Go.Proofs.YtolkpkklinoegaaDoor
