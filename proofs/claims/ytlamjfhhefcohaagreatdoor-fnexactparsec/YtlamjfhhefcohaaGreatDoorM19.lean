import Derived.Test.YtlamjfhhefcohaaGreatDoorM18
import Derived.Laws.Strings
import Derived.OwnWalk
import Derived.Laws.OwnMore
namespace Go.Proofs.YtlamjfhhefcohaaGreatDoor
set_option linter.unusedVariables false
set_option linter.unusedSimpArgs false
set_option maxRecDepth 100000
set_option maxHeartbeats 16000000
section
open Go.RowKit
set_option maxHeartbeats 2000000 in
theorem gtree_any (t : Tr) (vg vf : Value) (w : World) (ht : smallT t) (hg : Globs w vg t.globals) (hf : Funcs w vf t.funcs) :
  Calls Tryz.prog 17 #[.agg #[vg, vf]] w fun e w' => e = .returned (.bool (treeB t)) ∧ Below w.heap.size w w' := by
 obtain ⟨gs, fs⟩ := t
 simp only at hg hf ⊢
 have HS : Hid (gs.length ≤ 1048576 ∧ fs.length ≤ 1048576 ∧ ∀ f ∈ fs, smallF f) := ht
 have hgl : gs.length ≤ 1048576 := HS.out.1
 have hfl : fs.length ≤ 1048576 := HS.out.2.1
 obtain ⟨ag, cg, rfl, -, -, hgc⟩ := hg
 obtain ⟨af, cf, rfl, -, -, hfc⟩ := hf
 have HGC : Hid (0 < gs.length → ∃ b off, ag = some ⟨b, off, none⟩ ∧ GlobsC w b off gs) := hgc
 have HFC : Hid (0 < fs.length → ∃ b off, af = some ⟨b, off, none⟩ ∧ FuncsC w b off fs) := hfc
 clear hgc hfc ht
 by_cases h5 : 50 < gs.length
 ·go_enter Tryz.func17, Tryz.ntmps17
  go_wp2_with fail
  go_ret
  exact ⟨ret_bool (by simp only [treeB, decide_eq_false (show ¬ gs.length ≤ 50 by omega), Bool.false_and]), (Below.refl _ _).alloc (Nat.le_refl _) _⟩
 by_cases h6 : 50 < fs.length
 ·go_enter Tryz.func17, Tryz.ntmps17
  go_wp2_with fail
  go_ret
  exact ⟨ret_bool (by simp only [treeB, decide_eq_false (show ¬ fs.length ≤ 50 by omega), Bool.false_and, Bool.and_false]), (Below.refl _ _).alloc (Nat.le_refl _) _⟩
 have HTB : Hid (treeB ⟨gs, fs⟩ = (gs.all globB && fs.all funcB)) := by
  show _ = _
  simp only [treeB, decide_eq_true (show gs.length ≤ 50 by omega), decide_eq_true (show fs.length ≤ 50 by omega), Bool.true_and]
 go_enter Tryz.func17, Tryz.ntmps17
 go_wp2_with fail
 go_loopw [3] (fun i wr => ∃ k : Nat, k ≤ gs.length ∧ i = .int .i64 k ∧ (∀ g ∈ gs.take k, globB g = true) ∧ Below (w.heap.size + 1) (w.alloc (.cells #[.slice ag gs.length cg, .slice af fs.length cf] 26)) wr) (fun i _ => gs.length - (RowKit.intOf i).toNat)
 case atStart => exact ⟨0, Nat.zero_le _, rfl, by simp, Below.refl _ _⟩
 case round =>
  obtain ⟨k, hk, rfl, hg, hB⟩ := hrel
  have HG : Hid (∀ g ∈ gs.take k, globB g = true) := hg
  clear hg
  have hBw := one_below hB
  by_cases hlt : k < gs.length
  ·obtain ⟨b, off, rfl, hc⟩ := HGC.out (by omega)
   obtain ⟨d0, d1⟩ := (hc.below hBw) k hlt
   have HE : Hid (gs.take (k + 1) = gs.take k ++ [gs[k]]) := take_succ gs k hlt
   have HX : Hid (globB gs[k] = false → gs.all globB = false) := allG_bad hlt
   clear hc
   generalize gs[k] = g at d0 d1 HE HX
   obtain ⟨x0, x1⟩ := box2 hB
   obtain ⟨s, z⟩ := g
   simp only at d0 d1
   cases hv : nameB s
   ·have hv2 : globB ⟨s, z⟩ = false := by simp only [globB, hv, Bool.false_and]
    have HV : Hid (globB ⟨s, z⟩ = false) := hv2
    clear hv2
    go_wp2_with (go_at_call 37; refine (name_any _ _).mono ?_; rintro e w' ⟨rfl, rfl⟩; rw [hv])
    go_ret
    exact ⟨ret_bool (by rw [HTB.out, HX.out HV.out]; rfl), hBw⟩
   cases hz : decide (0 ≤ z ∧ z ≤ 4000)
   ·have hv2 : globB ⟨s, z⟩ = false := by simp only [globB, hv, hz, Bool.and_false]
    have HV : Hid (globB ⟨s, z⟩ = false) := hv2
    have HZ : Hid (decide (0 ≤ z ∧ z ≤ 4000) = false) := hz
    clear hv2 hz
    go_wp2_with (first | (go_at_call 37; refine (name_any _ _).mono ?_; rintro e w' ⟨rfl, rfl⟩; rw [hv]) | (go_at_call 38; refine (in_any _ _ _ _).mono ?_; rintro e w' ⟨rfl, rfl⟩; rw [HZ.out]))
    go_ret
    exact ⟨ret_bool (by rw [HTB.out, HX.out HV.out]; rfl), hBw⟩
   ·have HV : Hid (globB ⟨s, z⟩ = true) := by
     show _ = _
     simp only [globB, hv, hz, Bool.and_self]
    have HZ : Hid (decide (0 ≤ z ∧ z ≤ 4000) = true) := hz
    clear hz
    go_wp2_with (first | (go_at_call 37; refine (name_any _ _).mono ?_; rintro e w' ⟨rfl, rfl⟩; rw [hv]) | (go_at_call 38; refine (in_any _ _ _ _).mono ?_; rintro e w' ⟨rfl, rfl⟩; rw [HZ.out]))
    go_roundw
    case rel =>
     refine ⟨k + 1, by omega, by go_num, fun m hm => ?_, hB⟩
     rw [HE.out] at hm
     rcases List.mem_append.1 hm with hm | hm
     ·exact HG.out m hm
     ·rw [List.mem_singleton.1 hm]; exact HV.out
    case measure => simp [RowKit.intOf]; omega
  ·have HA : Hid (gs.all globB = true) := by
    show _ = _
    rw [List.all_eq_true]
    have := HG.out
    rw [List.take_of_length_le (by omega)] at this
    exact this
   clear HG HGC
   obtain ⟨x0, x1⟩ := box2 hB
   go_wp2_with fail
   clear x0 x1
   go_loopw [4] (fun i wr => ∃ k : Nat, k ≤ fs.length ∧ i = .int .i64 k ∧ (∀ f ∈ fs.take k, funcB f = true) ∧ Below (w.heap.size + 1) (w.alloc (.cells #[.slice ag gs.length cg, .slice af fs.length cf] 26)) wr) (fun i _ => fs.length - (RowKit.intOf i).toNat)
   case atStart => exact ⟨0, Nat.zero_le _, rfl, by simp, hB⟩
   case round =>
    clear hB hBw hlt
    obtain ⟨k, hk, rfl, hg, hB⟩ := hrel
    have HG : Hid (∀ f ∈ fs.take k, funcB f = true) := hg
    clear hg
    have hBw := one_below hB
    by_cases hlt : k < fs.length
    ·obtain ⟨b, off, rfl, hc⟩ := HFC.out (by omega)
     obtain ⟨vp, vb, ⟨d0, d1, d2⟩, hp, hs⟩ := (hc.below hBw) k hlt
     have HE : Hid (fs.take (k + 1) = fs.take k ++ [fs[k]]) := take_succ fs k hlt
     have HX : Hid (funcB fs[k] = false → fs.all funcB = false) := allF_bad hlt
     have HSM : Hid (smallF fs[k]) := HS.out.2.2 fs[k] (List.getElem_mem hlt)
     clear hc
     generalize fs[k] = f at d0 d1 d2 HE HX HSM hp hs
     have HP : Hid (Strs wr vp f.params) := hp
     have HB : Hid (Stmts wr vb f.body) := hs
     obtain ⟨a2, k2, rfl, -, -, -⟩ := hp
     obtain ⟨a3, k3, rfl, -, -, -⟩ := hs
     obtain ⟨x0, x1⟩ := box2 hB
     go_wp2_with fail
     refine (gfunc_any f _ _ _ HSM.out HP.out HB.out).mono ?_
     rintro e w2 ⟨rfl, hb2⟩
     have hBx2 := hb2
     clear x0 x1
     have hB2 := hB.trans (hBx2.mono (by have := hB.size; simp at this; omega))
     clear d0 d1 d2 hb2
     cases hv : funcB f
     ·go_wp2_with fail
      go_ret
      exact ⟨ret_bool (by rw [HTB.out, HX.out hv]; simp), one_below hB2⟩
     ·go_wp2_with fail
      go_roundw
      case rel =>
       refine ⟨k + 1, by omega, by go_num, fun m hm => ?_, hB2⟩
       rw [HE.out] at hm
       rcases List.mem_append.1 hm with hm | hm
       ·exact HG.out m hm
       ·rw [List.mem_singleton.1 hm]; exact hv
      case measure => simp [RowKit.intOf]; omega
    ·have HA2 : Hid (fs.all funcB = true) := by
      show _ = _
      rw [List.all_eq_true]
      have := HG.out
      rw [List.take_of_length_le (by omega)] at this
      exact this
     obtain ⟨x0, x1⟩ := box2 hB
     go_wp2_with fail
     go_ret
     exact ⟨ret_bool (by rw [HTB.out, HA.out, HA2.out]; rfl), hBw⟩
end
section
open Go.RowKit
end
section
open Go.RowKit
theorem nameB_small {s : ByteArray} (h : nameB s = true) : s.size ≤ 20 := by
 simp only [nameB, decide_eq_true_eq] at h
 exact h.2.1
theorem nil_small {s : ByteArray} (h : (s.toList == []) = true) : s.size ≤ 20 := by
 have e : s.toList = [] := by simpa using h
 rw [ByteArray.toList_eq] at e
 have e2 : s.data.size = 0 := by rw [← Array.length_toList, e]; rfl
 show s.data.size ≤ 20
 omega
theorem nodeB_small {n : Nd} (h : nodeB n = true) : n.name.size ≤ 20 := by
 unfold nodeB at h
 split at h
 ·rw [Bool.and_eq_true] at h; exact nil_small h.2
 ·split at h
  ·rw [Bool.and_eq_true] at h; exact nameB_small h.2
  ·split at h
   ·rw [Bool.and_eq_true] at h; exact nameB_small h.2
   ·split at h
    ·rw [Bool.and_eq_true] at h; exact nil_small h.2
    ·split at h
     ·rw [Bool.and_eq_true] at h; exact nil_small h.2
     ·split at h
      ·rw [Bool.and_eq_true] at h; exact nil_small h.2
      ·cases h
structure OkS (s : St) : Prop where
 e : s.e.length ≤ 2000
 f : s.f.length ≤ 2000
 nm : s.name.size ≤ 20
 ne : ∀ n ∈ s.e, n.name.size ≤ 20
 nf : ∀ n ∈ s.f, n.name.size ≤ 20
theorem OkS.of {s : St} (h : stmtB s = true) (he : s.e.length ≤ 2000) (hf : s.f.length ≤ 2000) : OkS s := by
 unfold stmtB at h
 simp only [Bool.and_eq_true] at h
 obtain ⟨⟨⟨⟨⟨⟨a1, a2⟩, a3⟩, a4⟩, a5⟩, a6⟩, a7⟩ := h
 refine ⟨he, hf, ?_, fun n hn => nodeB_small (one_good a3 n hn), fun n hn => ?_⟩
 ·split at a2
  ·exact nameB_small a2
  ·exact nil_small a2
 ·split at a4
  ·exact nodeB_small (one_good a4 n hn)
  ·have e : s.f = [] := List.eq_nil_of_length_eq_zero (by simpa using a4)
   rw [e] at hn
   cases hn
theorem nodeSum_in {l : List St} {s : St} (h : s ∈ l) : s.e.length + s.f.length ≤ nodeSum l := by
 induction l with
 | nil => cases h
 | cons a r ih =>
  simp only [nodeSum]
  rcases List.mem_cons.1 h with rfl | h
  ·omega
  ·have := ih h; omega
theorem func_parts {f : Fu} (h : funcB f = true) : f.name.size ≤ 20 ∧ f.params.length ≤ 6 ∧ f.body.length ≤ 500 ∧ (∀ p ∈ f.params, p.size ≤ 20) ∧ fitB f.body = true ∧ ∀ s ∈ f.body, stmtB s = true ∧ s.e.length ≤ 2000 ∧ s.f.length ≤ 2000 := by
 unfold funcB stmtsB at h
 simp only [Bool.and_eq_true, decide_eq_true_eq] at h
 obtain ⟨h1, h2, h3, h4, ⟨h5, h6⟩, h7⟩ := h
 refine ⟨nameB_small h1, h2, h3, fun p hp => nameB_small (List.all_eq_true.1 h4 p hp), h7, fun s hs => ⟨List.all_eq_true.1 h6 s hs, ?_⟩⟩
 have := nodeSum_in hs
 omega
structure OkF (f : Fu) : Prop where
 nm : f.name.size ≤ 20
 ps : f.params.length ≤ 6
 body : f.body.length ≤ 500
 pn : ∀ p ∈ f.params, p.size ≤ 20
 ok : ∀ s ∈ f.body, OkS s
theorem OkS.wf {s : St} (h : OkS s) : wfSt s := by
 obtain ⟨h1, h2, h3, h4, h5⟩ := h
 exact ⟨by omega, ⟨by omega, fun n hn => by have := h4 n hn; omega⟩, ⟨by omega, fun n hn => by have := h5 n hn; omega⟩⟩
theorem OkF.wf {f : Fu} (h : OkF f) : wfFu f := by
 obtain ⟨h1, h2, h3, h4, h5⟩ := h
 exact ⟨by omega, ⟨by omega, fun p hp => by have := h4 p hp; omega⟩, ⟨by omega, fun s hs => (h5 s hs).wf⟩⟩
theorem OkF.small {f : Fu} (h : OkF f) : smallF f := by
 obtain ⟨h1, h2, h3, h4, h5⟩ := h
 exact ⟨by omega, by omega, fun s hs => ⟨by have := (h5 s hs).e; omega, by have := (h5 s hs).f; omega⟩⟩
theorem OkF.of {f : Fu} (h : funcB f = true) : OkF f := by
 obtain ⟨p1, p2, p3, p4, -, p6⟩ := func_parts h
 exact ⟨p1, p2, p3, p4, fun s hs => OkS.of (p6 s hs).1 (p6 s hs).2.1 (p6 s hs).2.2⟩
theorem OkF.tree {t : Tr} (h : treeB t = true) : t.globals.length ≤ 50 ∧ t.funcs.length ≤ 50 ∧ ∀ f ∈ t.funcs, OkF f := by
 unfold treeB at h
 simp only [Bool.and_eq_true, decide_eq_true_eq] at h
 obtain ⟨h1, h2, -, h4⟩ := h
 exact ⟨h1, h2, fun f hf => OkF.of (List.all_eq_true.1 h4 f hf)⟩
end
section
open Go.RowKit
def PgL (T : Nat → To) (n : Nat) : Nat → PS → Tr → Tr → PS → Prop
 | 0, s, t, t', s' => (s.er ≠ 0 ∨ (T s.i).kind = 4) ∧ t' = t ∧ s' = s
 | k + 1, s, t, t', s' => s.er = 0 ∧ (T s.i).kind ≠ 4 ∧ ∃ x s1, Tp T n s x s1 ∧ PgL T n k s1 (addT t x) t' s'
theorem Pg.steps {T : Nat → To} {n : Nat} {s : PS} {t t' : Tr} {s' : PS} (h : Pg T n s t t' s') : ∃ k, PgL T n k s t t' s' := by
 induction h using Pg_i with
 | done s t h => exact ⟨0, h, rfl, rfl⟩
 | more s t x s1 t' s' h0 h4 h1 h2 ih =>
  obtain ⟨k, hk⟩ := ih
  exact ⟨k + 1, h0, h4, x, s1, h1, hk⟩
theorem PgL.pg {T : Nat → To} {n : Nat} : ∀ {k : Nat} {s : PS} {t t' : Tr} {s' : PS}, PgL T n k s t t' s' → Pg T n s t t' s'
 | 0, s, t, t', s', h => by
  obtain ⟨h1, rfl, rfl⟩ := h
  exact .done _ _ h1
 | k + 1, s, t, t', s', h => by
  obtain ⟨h0, h4, x, s1, hx, h2⟩ := h
  exact .more s t x s1 t' s' h0 h4 hx h2.pg
theorem PgL.end' {T : Nat → To} {n : Nat} {k : Nat} {s : PS} {t t' : Tr} {s' : PS} (h : PgL T n k s t t' s') (hd : s.er ≠ 0 ∨ (T s.i).kind = 4) : t' = t ∧ s' = s := by
 cases k with
 | zero => exact ⟨h.2.1, h.2.2⟩
 | succ k =>
  obtain ⟨h0, h4, -⟩ := h
  rcases hd with hd | hd
  ·exact absurd h0 hd
  ·exact absurd hd h4
theorem PgL.more' {T : Nat → To} {n : Nat} {k : Nat} {s : PS} {t t' : Tr} {s' : PS} (h : PgL T n k s t t' s') (h0 : s.er = 0) (h4 : (T s.i).kind ≠ 4) : ∃ m x s1, k = m + 1 ∧ Tp T n s x s1 ∧ PgL T n m s1 (addT t x) t' s' := by
 cases k with
 | zero =>
  rcases h.1 with h1 | h1
  ·exact absurd h0 h1
  ·exact absurd h1 h4
 | succ k =>
  obtain ⟨-, -, x, s1, hx, h2⟩ := h
  exact ⟨k, x, s1, rfl, hx, h2⟩
theorem PgL.sizes {T : Nat → To} {n K : Nat} {k : Nat} {s1 : PS} {t t' : Tr} {s' : PS} {x : Gl ⊕ Fu} (h : PgL T n k s1 (addT t x) t' s') (hs : smT K 0 t') (hK : K ≤ 20000) : (∀ f, x = .inr f → f.params.length ≤ 1000000 ∧ szS f.body ≤ 1000000) ∧ t.globals.length ≤ 100000 ∧ t.funcs.length ≤ 100000 := by
 obtain ⟨⟨a, ha⟩, b, hb⟩ := h.pg.grow
 have hl := hs.gl
 rw [ha, hb] at hl
 simp only [List.length_append] at hl
 refine ⟨fun f hf => ?_, ?_, ?_⟩
 ·subst hf
  have := hs.fs f (by rw [hb]; simp [addT])
  unfold smF at this
  omega
 ·cases x <;> simp only [addT, List.length_append, List.length_singleton] at hl <;> omega
 ·cases x <;> simp only [addT, List.length_append, List.length_singleton] at hl <;> omega
theorem szS_in {s : St} {l : List St} (h : s ∈ l) : s.e.length + s.f.length ≤ szS l := by
 induction l with
 | nil => cases h
 | cons a r ih =>
  rw [szS_cons]
  rcases List.mem_cons.1 h with rfl | h
  ·omega
  ·have := ih h; omega
theorem szS_ln (l : List St) : l.length ≤ szS l := by
 induction l with
 | nil => exact Nat.le_refl _
 | cons s l ih => rw [szS_cons]; simp only [List.length_cons]; omega
theorem smT.small {K : Nat} {t : Tr} (h : smT K 0 t) (hK : K ≤ 20000) : smallT t := by
 have hl := h.gl
 refine ⟨by omega, by omega, fun f hf => ?_⟩
 have hf := h.fs f hf
 unfold smF at hf
 have := szS_ln f.body
 refine ⟨by omega, by omega, fun s hs => ?_⟩
 have := szS_in hs
 exact ⟨by omega, by omega⟩
def s00 : PS := ⟨0, 0, 0, 0⟩
def t00 : Tr := ⟨[], []⟩
structure Rn (l : List UInt8) (T : Nat → To) (K k : Nat) (t : Tr) (s : PS) : Prop where
 las : Las T K
 kl : K ≤ l.length
 pg : PgL T (20 * K + 40) k s00 t00 t s
 sm : smT K 0 t
theorem rn_ends {l : List UInt8} {T : Nat → To} {K : Nat} (hL : Las T K) (hK : K ≤ l.length) : ∃ k t s, Rn l T K k t s := by
 obtain ⟨t, s, h1, h2, h3⟩ := pg_ends hL (Mo K s00) s00 t00 rfl (Nat.zero_le _) ⟨by have := mo_le (K := K) (s := s00) (Nat.zero_le _); simp only [t00, List.length_nil]; omega, fun f hf => by cases hf⟩
 obtain ⟨k, hk⟩ := h1.steps
 exact ⟨k, t, s, hL, hK, hk, h3⟩
def ansR (l : List UInt8) (t : Tr) (s : PS) : Int × Int × Tr := if s.er ≠ 0 then (s.er, s.pl, t00) else if treeB t = true then (0, 0, t) else (5, (l.length : Int), t00)
end
section
open Go.RowKit
end
section
open Go.RowKit
theorem owns_below {w w' : World} {base e size n cap g : Nat} {xs : List Value} (h : w.ownsRow base e size (.slice (some ⟨g, 0, none⟩) n cap) n xs) (hb : Below w.heap.size w w') : w'.ownsRow base e size (.slice (some ⟨g, 0, none⟩) n cap) n xs := by
 refine ⟨h.1, ?_⟩
 rcases h.2 with hn | ⟨g', cap', cur, he, hB, hg, rest⟩
 ·exact .inl hn
 ·refine .inr ⟨g', cap', cur, he, hB, ?_, rest⟩
  rw [hb.block g' (Array.getElem?_eq_some_iff.1 hg).1]
  exact hg
def putAt (xs : List Value) (i : Nat) : List Value → List Value
 | [] => xs
 | u :: r => putAt (xs.set i u) (i + 1) r
theorem putAt_get (us : List Value) : ∀ xs i j, i + us.length ≤ xs.length → (putAt xs i us)[j]? = if i ≤ j ∧ j < i + us.length then us[j - i]? else xs[j]? := by
 induction us with
 | nil => intro xs i j h; simp [putAt]; intro h1 h2; omega
 | cons u r ih =>
  intro xs i j h
  simp only [List.length_cons] at h
  simp only [putAt, List.length_cons]
  rw [ih _ _ _ (by simp; omega)]
  by_cases h1 : i + 1 ≤ j ∧ j < i + 1 + r.length
  ·rw [if_pos h1, if_pos (by omega), show j - i = (j - (i + 1)) + 1 by omega, List.getElem?_cons_succ]
  ·rw [if_neg h1]
   by_cases h2 : j = i
   ·subst h2
    rw [if_pos (by omega), List.getElem?_set_self (by omega)]
    simp
   ·rw [if_neg (by omega), List.getElem?_set_ne (by omega)]
def RowIs (enc : Nat → List Value) (m k : Nat) (xs : List Value) : Prop := ∀ j, j < k → ∀ i, i < m → xs[j * m + i]? = (enc j)[i]?
theorem RowIs.step {enc enc' : Nat → List Value} {m k : Nat} {xs us : List Value} (h : RowIs enc m k xs) (he : ∀ j, j < k → enc' j = enc j) (hk : enc' k = us) (hu : us.length = m) (hl : (k + 1) * m ≤ xs.length) : RowIs enc' m (k + 1) (putAt xs (k * m) us) := by
 intro j hj i hi
 have e1 : (k + 1) * m = k * m + m := by rw [Nat.add_mul, Nat.one_mul]
 rw [putAt_get us xs (k * m) (j * m + i) (by omega)]
 by_cases hjk : j = k
 ·subst hjk
  rw [if_pos (by omega), show j * m + i - j * m = i by omega, hk]
 ·have hlt : j < k := by omega
  have : j * m + m ≤ k * m := by
   have := Nat.mul_le_mul_right m (show j + 1 ≤ k by omega)
   rw [Nat.add_mul, Nat.one_mul] at this
   exact this
  rw [if_neg (by omega), h j hlt i hi, he j hlt]
theorem RowIs.zero (enc : Nat → List Value) (m : Nat) (xs : List Value) : RowIs enc m 0 xs := fun j hj => absurd hj (Nat.not_lt_zero _)
def encN (n : Nd) : List Value := [.int .i64 n.kind, .int .i64 n.val, .string n.name]
def NodesO (B : Nat) (w : World) (v : Value) (ns : List Nd) : Prop := ∃ g xs, v = .slice (some ⟨g, 0, none⟩) ns.length ns.length ∧ w.ownsRow B 48 3 v ns.length xs ∧ RowIs (fun j => encN (ns.getD j ⟨0, 0, ⟨#[]⟩⟩)) 3 ns.length xs
theorem NodesO.nodes {B : Nat} {w : World} {v : Value} {ns : List Nd} (h : NodesO B w v ns) (hm : ns.length ≤ 9223372036854775807) : Nodes w v ns := by
 obtain ⟨g, xs, rfl, ho, hx⟩ := h
 refine ⟨_, _, rfl, Nat.le_refl _, hm, fun h0 => ⟨g, 0, rfl, fun j hj => ?_⟩⟩
 have hl := ho.1
 have key : ∀ i, i < 3 → w.cell? ⟨g, 0 + j * 3 + i, none⟩ = (encN ns[j])[i]? := fun i hi => by
  rw [Nat.zero_add, ho.cellAt (j * 3 + i) (by omega), hx j hj i hi]
  simp [List.getD, hj]
 exact ⟨key 0 (by omega), key 1 (by omega), key 2 (by omega)⟩
theorem NodesO.below {B : Nat} {w w' : World} {v : Value} {ns : List Nd} (h : NodesO B w v ns) (hb : Below w.heap.size w w') : NodesO B w' v ns := by
 obtain ⟨g, xs, rfl, ho, hx⟩ := h
 exact ⟨g, xs, rfl, owns_below ho hb, hx⟩
end
section
open Go.RowKit
def Keep (B : Nat) (w w' : World) : Prop := ∀ k, B ≤ k → k < w.heap.size → w'.heap[k]? = w.heap[k]?
theorem Keep.of_below {B : Nat} {w w' : World} (h : Below w.heap.size w w') : Keep B w w' := fun k _ hk => h.block k hk
theorem Keep.trans {B : Nat} {w1 w2 w3 : World} (h : Keep B w1 w2) (hs : w1.heap.size ≤ w2.heap.size) (k : Keep B w2 w3) : Keep B w1 w3 := fun i hi hl => (k i hi (by omega)).trans (h i hi hl)
theorem owns_keep {w w' : World} {base e size n cap g : Nat} {xs : List Value} (h : w.ownsRow base e size (.slice (some ⟨g, 0, none⟩) n cap) n xs) (hb : Keep base w w') : w'.ownsRow base e size (.slice (some ⟨g, 0, none⟩) n cap) n xs := by
 refine ⟨h.1, ?_⟩
 rcases h.2 with hn | ⟨g', cap', cur, he, hB, hg, rest⟩
 ·exact .inl hn
 ·refine .inr ⟨g', cap', cur, he, hB, ?_, rest⟩
  rw [hb g' hB (Array.getElem?_eq_some_iff.1 hg).1]
  exact hg
theorem owns_mono {w : World} {base base' e size n cap g : Nat} {xs : List Value} (h : w.ownsRow base e size (.slice (some ⟨g, 0, none⟩) n cap) n xs) (hb : base' ≤ base) : w.ownsRow base' e size (.slice (some ⟨g, 0, none⟩) n cap) n xs := by
 refine ⟨h.1, ?_⟩
 rcases h.2 with hn | ⟨g', cap', cur, he, hB, rest⟩
 ·exact .inl hn
 ·exact .inr ⟨g', cap', cur, he, by omega, rest⟩
theorem NodesO.keep {B : Nat} {w w' : World} {v : Value} {ns : List Nd} (h : NodesO B w v ns) (hb : Keep B w w') : NodesO B w' v ns := by
 obtain ⟨g, xs, rfl, ho, hx⟩ := h
 exact ⟨g, xs, rfl, owns_keep ho hb, hx⟩
theorem NodesO.mono {B B' : Nat} {w : World} {v : Value} {ns : List Nd} (h : NodesO B w v ns) (hb : B' ≤ B) : NodesO B' w v ns := by
 obtain ⟨g, xs, rfl, ho, hx⟩ := h
 exact ⟨g, xs, rfl, owns_mono ho hb, hx⟩
def encP (s : ByteArray) : List Value := [.string s]
def StrsO (B : Nat) (w : World) (v : Value) (ns : List ByteArray) : Prop := ∃ g xs, v = .slice (some ⟨g, 0, none⟩) ns.length ns.length ∧ w.ownsRow B 9 1 v ns.length xs ∧ RowIs (fun j => encP (ns.getD j ⟨#[]⟩)) 1 ns.length xs
theorem StrsO.strs {B : Nat} {w : World} {v : Value} {ns : List ByteArray} (h : StrsO B w v ns) (hm : ns.length ≤ 9223372036854775807) : Strs w v ns := by
 obtain ⟨g, xs, rfl, ho, hx⟩ := h
 refine ⟨_, _, rfl, Nat.le_refl _, hm, fun h0 => ⟨g, 0, rfl, fun j hj => ?_⟩⟩
 have hl := ho.1
 have hk := hx j hj 0 (by omega)
 rw [Nat.zero_add, ho.cellAt j (by omega)]
 rw [show j * 1 + 0 = j by omega] at hk
 rw [hk]
 simp [encP, List.getD, hj]
theorem StrsO.keep {B : Nat} {w w' : World} {v : Value} {ns : List ByteArray} (h : StrsO B w v ns) (hb : Keep B w w') : StrsO B w' v ns := by
 obtain ⟨g, xs, rfl, ho, hx⟩ := h
 exact ⟨g, xs, rfl, owns_keep ho hb, hx⟩
theorem StrsO.mono {B B' : Nat} {w : World} {v : Value} {ns : List ByteArray} (h : StrsO B w v ns) (hb : B' ≤ B) : StrsO B' w v ns := by
 obtain ⟨g, xs, rfl, ho, hx⟩ := h
 exact ⟨g, xs, rfl, owns_mono ho hb, hx⟩
def encG (g : Gl) : List Value := [.string g.name, .int .i64 g.size]
def GlobsO (B : Nat) (w : World) (v : Value) (ns : List Gl) : Prop := ∃ g xs, v = .slice (some ⟨g, 0, none⟩) ns.length ns.length ∧ w.ownsRow B 74 2 v ns.length xs ∧ RowIs (fun j => encG (ns.getD j ⟨⟨#[]⟩, 0⟩)) 2 ns.length xs
theorem GlobsO.globs {B : Nat} {w : World} {v : Value} {ns : List Gl} (h : GlobsO B w v ns) (hm : ns.length ≤ 9223372036854775807) : Globs w v ns := by
 obtain ⟨g, xs, rfl, ho, hx⟩ := h
 refine ⟨_, _, rfl, Nat.le_refl _, hm, fun h0 => ⟨g, 0, rfl, fun j hj => ?_⟩⟩
 have hl := ho.1
 have key : ∀ i, i < 2 → w.cell? ⟨g, 0 + j * 2 + i, none⟩ = (encG ns[j])[i]? := fun i hi => by
  rw [Nat.zero_add, ho.cellAt (j * 2 + i) (by omega), hx j hj i hi]
  simp [List.getD, hj]
 exact ⟨key 0 (by omega), key 1 (by omega)⟩
theorem GlobsO.keep {B : Nat} {w w' : World} {v : Value} {ns : List Gl} (h : GlobsO B w v ns) (hb : Keep B w w') : GlobsO B w' v ns := by
 obtain ⟨g, xs, rfl, ho, hx⟩ := h
 exact ⟨g, xs, rfl, owns_keep ho hb, hx⟩
theorem GlobsO.mono {B B' : Nat} {w : World} {v : Value} {ns : List Gl} (h : GlobsO B w v ns) (hb : B' ≤ B) : GlobsO B' w v ns := by
 obtain ⟨g, xs, rfl, ho, hx⟩ := h
 exact ⟨g, xs, rfl, owns_mono ho hb, hx⟩
end
section
open Go.RowKit
theorem Keep.setCell {B : Nat} {a w : World} {p : Addr} {u : Value} (h : Keep B a w) (hp : p.block < B) : Keep B a (w.setCell p u) := fun k hk hl => (Below.heap_setCell w p u k (by omega)).trans (h k hk hl)
theorem Keep.refl (B : Nat) (w : World) : Keep B w w := fun _ _ _ => rfl
theorem Keep.mono {B B' : Nat} {w w' : World} (h : Keep B w w') (hb : B ≤ B') : Keep B' w w' := fun k hk hl => h k (by omega) hl
end
section
open Go.RowKit
def encS (s : St) (v : Value × Value) : List Value := [.int .i64 s.kind, .string s.name, v.1, v.2, .int .i64 s.thn, .int .i64 s.els]
def dSt : St := ⟨0, ⟨#[]⟩, [], [], 0, 0⟩
def StmtsO (B : Nat) (w : World) (v : Value) (ns : List St) : Prop := ∃ (g : Nat) (xs : List Value) (V : Nat → Value × Value), v = .slice (some ⟨g, 0, none⟩) ns.length ns.length ∧ w.ownsRow B 46 6 v ns.length xs ∧ RowIs (fun j => encS (ns.getD j dSt) (V j)) 6 ns.length xs ∧ ∀ j (h : j < ns.length), NodesO B w (V j).1 ns[j].e ∧ NodesO B w (V j).2 ns[j].f
theorem StmtsO.stmts {B : Nat} {w : World} {v : Value} {ns : List St} (h : StmtsO B w v ns) (hm : ns.length ≤ 9223372036854775807) (hs : ∀ s ∈ ns, smallS s) : Stmts w v ns := by
 obtain ⟨g, xs, V, rfl, ho, hx, hn⟩ := h
 refine ⟨_, _, rfl, Nat.le_refl _, hm, fun h0 => ⟨g, 0, rfl, fun j hj => ?_⟩⟩
 have hl := ho.1
 have key : ∀ i, i < 6 → w.cell? ⟨g, 0 + j * 6 + i, none⟩ = (encS ns[j] (V j))[i]? := fun i hi => by
  rw [Nat.zero_add, ho.cellAt (j * 6 + i) (by omega), hx j hj i hi]
  simp [List.getD, hj]
 have hsm := hs ns[j] (List.getElem_mem hj)
 exact ⟨(V j).1, (V j).2, ⟨key 0 (by omega), key 1 (by omega), key 2 (by omega), key 3 (by omega), key 4 (by omega), key 5 (by omega)⟩, (hn j hj).1.nodes (by have := hsm.1; omega), (hn j hj).2.nodes (by have := hsm.2; omega)⟩
theorem StmtsO.keep {B : Nat} {w w' : World} {v : Value} {ns : List St} (h : StmtsO B w v ns) (hb : Keep B w w') : StmtsO B w' v ns := by
 obtain ⟨g, xs, V, rfl, ho, hx, hn⟩ := h
 exact ⟨g, xs, V, rfl, owns_keep ho hb, hx, fun j hj => ⟨(hn j hj).1.keep hb, (hn j hj).2.keep hb⟩⟩
theorem StmtsO.mono {B B' : Nat} {w : World} {v : Value} {ns : List St} (h : StmtsO B w v ns) (hb : B' ≤ B) : StmtsO B' w v ns := by
 obtain ⟨g, xs, V, rfl, ho, hx, hn⟩ := h
 exact ⟨g, xs, V, rfl, owns_mono ho hb, hx, fun j hj => ⟨(hn j hj).1.mono hb, (hn j hj).2.mono hb⟩⟩
end
section
open Go.RowKit
def encF (f : Fu) (v : Value × Value) : List Value := [.string f.name, v.1, v.2]
def dFu : Fu := ⟨⟨#[]⟩, [], []⟩
def FuncsO (B : Nat) (w : World) (v : Value) (ns : List Fu) : Prop := ∃ (g : Nat) (xs : List Value) (V : Nat → Value × Value), v = .slice (some ⟨g, 0, none⟩) ns.length ns.length ∧ w.ownsRow B 43 3 v ns.length xs ∧ RowIs (fun j => encF (ns.getD j dFu) (V j)) 3 ns.length xs ∧ ∀ j (h : j < ns.length), StrsO B w (V j).1 ns[j].params ∧ StmtsO B w (V j).2 ns[j].body
theorem FuncsO.funcs {B : Nat} {w : World} {v : Value} {ns : List Fu} (h : FuncsO B w v ns) (hm : ns.length ≤ 9223372036854775807) (hs : ∀ s ∈ ns, smallF s) : Funcs w v ns := by
 obtain ⟨g, xs, V, rfl, ho, hx, hn⟩ := h
 refine ⟨_, _, rfl, Nat.le_refl _, hm, fun h0 => ⟨g, 0, rfl, fun j hj => ?_⟩⟩
 have hl := ho.1
 have key : ∀ i, i < 3 → w.cell? ⟨g, 0 + j * 3 + i, none⟩ = (encF ns[j] (V j))[i]? := fun i hi => by
  rw [Nat.zero_add, ho.cellAt (j * 3 + i) (by omega), hx j hj i hi]
  simp [List.getD, hj]
 have hsm := hs ns[j] (List.getElem_mem hj)
 exact ⟨(V j).1, (V j).2, ⟨key 0 (by omega), key 1 (by omega), key 2 (by omega)⟩, (hn j hj).1.strs (by have := hsm.1; omega), (hn j hj).2.stmts (by have := hsm.2.1; omega) hsm.2.2⟩
theorem FuncsO.keep {B : Nat} {w w' : World} {v : Value} {ns : List Fu} (h : FuncsO B w v ns) (hb : Keep B w w') : FuncsO B w' v ns := by
 obtain ⟨g, xs, V, rfl, ho, hx, hn⟩ := h
 exact ⟨g, xs, V, rfl, owns_keep ho hb, hx, fun j hj => ⟨(hn j hj).1.keep hb, (hn j hj).2.keep hb⟩⟩
theorem FuncsO.mono {B B' : Nat} {w : World} {v : Value} {ns : List Fu} (h : FuncsO B w v ns) (hb : B' ≤ B) : FuncsO B' w v ns := by
 obtain ⟨g, xs, V, rfl, ho, hx, hn⟩ := h
 exact ⟨g, xs, V, rfl, owns_mono ho hb, hx, fun j hj => ⟨(hn j hj).1.mono hb, (hn j hj).2.mono hb⟩⟩
end
section
open Go.RowKit
structure MSh (B T : Nat) (w w' : World) : Prop where
 os : w'.os = w.os
 tape : w'.tape = w.tape
 output : w'.output = w.output
 size : w.heap.size ≤ w'.heap.size
 block : ∀ k, k < w.heap.size → w'.heap[k]? = w.heap[k]? ∨ (B ≤ k ∧ k < T ∧ ∃ cur cur' t, w.heap[k]? = some (.cells cur t (0, 0)) ∧ w'.heap[k]? = some (.cells cur' t (0, 0)) ∧ cur'.size = cur.size ∧ ∀ (i : Nat) (a : Option Addr) (n c : Nat), cur'[i]? = some (.slice a n c) ↔ cur[i]? = some (.slice a n c))
theorem MSh.refl (B T : Nat) (w : World) : MSh B T w w := ⟨rfl, rfl, rfl, Nat.le_refl _, fun _ _ => .inl rfl⟩
theorem MSh.trans {B T : Nat} {w1 w2 w3 : World} (h : MSh B T w1 w2) (k : MSh B T w2 w3) : MSh B T w1 w3 := by
 refine ⟨k.os.trans h.os, k.tape.trans h.tape, k.output.trans h.output, Nat.le_trans h.size k.size, fun i hi => ?_⟩
 rcases h.block i hi with h1 | ⟨b1, t1, c1, c2, t, e1, e2, s1, m1⟩
 ·rcases k.block i (by have := h.size; omega) with h2 | ⟨b2, t2, d1, d2, u, f1, f2, s2, m2⟩
  ·exact .inl (h2.trans h1)
  ·exact .inr ⟨b2, t2, d1, d2, u, h1.symm.trans f1, f2, s2, m2⟩
 ·rcases k.block i (by have := h.size; omega) with h2 | ⟨b2, t2, d1, d2, u, f1, f2, s2, m2⟩
  ·exact .inr ⟨b1, t1, c1, c2, t, e1, h2.trans e2, s1, m1⟩
  ·rw [e2] at f1
   injection f1 with f1
   injection f1 with f1 f1' _
   subst f1
   subst f1'
   exact .inr ⟨b1, t1, c1, d2, t, e1, f2, s2.trans s1, fun i a n c => (m2 i a n c).trans (m1 i a n c)⟩
theorem MSh.of_below {B T : Nat} {w w' : World} (h : Below w.heap.size w w') : MSh B T w w' := ⟨h.os, h.tape, h.output, h.size, fun k hk => .inl (h.block k hk)⟩
theorem MSh.below {B T : Nat} {w w' : World} (h : MSh B T w w') (hB : B ≤ w.heap.size) : Below B w w' := by
 refine ⟨h.os, h.tape, h.output, h.size, fun k hk => ?_⟩
 rcases h.block k (by omega) with h1 | ⟨b1, _⟩
 ·exact h1
 ·omega
theorem MSh.keep {B T : Nat} {w w' : World} (h : MSh B T w w') : Keep T w w' := by
 intro k hk hl
 rcases h.block k hl with h1 | ⟨_, b2, _⟩
 ·exact h1
 ·omega
def plainV (v : Value) : Prop := ∀ a n c, v ≠ .slice a n c
theorem MSh.set {B T : Nat} {w : World} {g i : Nat} {cur : Array Value} {t : TypeId} {u v : Value} (hg : w.heap[g]? = some (.cells cur t (0, 0))) (hB : B ≤ g) (hT : g < T) (hv : cur[i]? = some v) (pv : plainV v) (pu : plainV u) : MSh B T w (w.setCell ⟨g, i, none⟩ u) := by
 refine ⟨rfl, rfl, rfl, by simp, fun k hk => ?_⟩
 by_cases e : k = g
 ·subst e
  refine .inr ⟨hB, hT, cur, cur.setIfInBounds i u, t, hg, heap_setCell_same w k i cur t u hg, by simp, fun j a n c => ?_⟩
  have hi : i < cur.size := (Array.getElem?_eq_some_iff.1 hv).1
  rw [Array.getElem?_setIfInBounds]
  by_cases ej : i = j
  ·subst ej
   rw [if_pos rfl, if_pos hi, hv]
   constructor
   ·intro h; exact absurd (Option.some.inj h) (pu a n c)
   ·intro h; exact absurd (Option.some.inj h) (pv a n c)
  ·rw [if_neg ej]
 ·exact .inl (Below.heap_setCell w ⟨g, i, none⟩ u k e)
def RowM (B T : Nat) (t m : Nat) (w : World) (v : Value) (n : Nat) (C : Array Value → Prop) : Prop := ∃ g cur, v = .slice (some ⟨g, 0, none⟩) n n ∧ B ≤ g ∧ g < T ∧ w.heap[g]? = some (.cells cur t (0, 0)) ∧ cur.size = n * m ∧ C cur
def plainAll (cur : Array Value) : Prop := ∀ (i : Nat) (v : Value), cur[i]? = some v → plainV v
def PlainM (B T : Nat) (t m : Nat) (w : World) (v : Value) (n : Nat) : Prop := RowM B T t m w v n plainAll
theorem rowm_cell {w : World} {g i : Nat} {cur : Array Value} {t : TypeId} (hg : w.heap[g]? = some (.cells cur t (0, 0))) (hi : i < cur.size) : w.cell? ⟨g, i, none⟩ = some cur[i] ∧ w.frozen? ⟨g, i, none⟩ = false := by
 refine ⟨?_, frozen_of_row w g i cur t hg⟩
 rw [cell_of_row w g i cur t (0, 0) hg]
 simp [hi]
theorem PlainM.set {B T t m n : Nat} {w : World} {g i : Nat} {u : Value} (h : PlainM B T t m w (.slice (some ⟨g, 0, none⟩) n n) n) (hi : i < n * m) (pu : plainV u) : MSh B T w (w.setCell ⟨g, i, none⟩ u) := by
 obtain ⟨g', cur, he, hB, hT, hg, hz, hc⟩ := h
 simp only [Value.slice.injEq, Option.some.injEq, Addr.mk.injEq, and_true, true_and] at he
 subst he
 exact MSh.set hg hB hT (v := cur[i]'(by omega)) (by simp) (hc i _ (by simp)) pu
theorem PlainM.old {B T t m n : Nat} {w : World} {g i : Nat} (h : PlainM B T t m w (.slice (some ⟨g, 0, none⟩) n n) n) (hi : i < n * m) : (∃ y, w.cell? ⟨g, i, none⟩ = some y) ∧ w.frozen? ⟨g, i, none⟩ = false := by
 obtain ⟨g', cur, he, hB, hT, hg, hz, hc⟩ := h
 simp only [Value.slice.injEq, Option.some.injEq, Addr.mk.injEq, and_true, true_and] at he
 subst he
 have := rowm_cell (i := i) hg (by omega)
 exact ⟨⟨_, this.1⟩, this.2⟩
def StmtsM (B T : Nat) (w : World) (v : Value) (ss : List St) : Prop := ∃ g cur, v = .slice (some ⟨g, 0, none⟩) ss.length ss.length ∧ B ≤ g ∧ g < T ∧ w.heap[g]? = some (.cells cur 46 (0, 0)) ∧ cur.size = ss.length * 6 ∧
 ∀ j (h : j < ss.length), (∃ ve vf, cur[j * 6 + 2]? = some ve ∧ cur[j * 6 + 3]? = some vf ∧ PlainM B T 48 3 w ve ss[j].e.length ∧ PlainM B T 48 3 w vf ss[j].f.length) ∧
  ∀ i, i = 0 ∨ i = 1 ∨ i = 4 ∨ i = 5 → ∀ v, cur[j * 6 + i]? = some v → plainV v
def FuncsM (B T : Nat) (w : World) (v : Value) (fs : List Fu) : Prop := ∃ g cur, v = .slice (some ⟨g, 0, none⟩) fs.length fs.length ∧ B ≤ g ∧ g < T ∧ w.heap[g]? = some (.cells cur 43 (0, 0)) ∧ cur.size = fs.length * 3 ∧
 ∀ j (h : j < fs.length), (∃ vp vb, cur[j * 3 + 1]? = some vp ∧ cur[j * 3 + 2]? = some vb ∧ PlainM B T 9 1 w vp fs[j].params.length ∧ StmtsM B T w vb fs[j].body) ∧ ∀ v, cur[j * 3]? = some v → plainV v
theorem PlainM.isSlice {B T t m n : Nat} {w : World} {v : Value} (h : PlainM B T t m w v n) : ∃ a n c, v = .slice a n c := by
 obtain ⟨g, cur, rfl, _⟩ := h
 exact ⟨_, _, _, rfl⟩
theorem StmtsM.isSlice {B T : Nat} {w : World} {v : Value} {ss : List St} (h : StmtsM B T w v ss) : ∃ a n c, v = .slice a n c := by
 obtain ⟨g, cur, rfl, _⟩ := h
 exact ⟨_, _, _, rfl⟩
theorem StmtsM.at {B T : Nat} {w : World} {g : Nat} {ss : List St} (h : StmtsM B T w (.slice (some ⟨g, 0, none⟩) ss.length ss.length) ss) (j : Nat) (hj : j < ss.length) :
  ∃ ve vf, w.cell? ⟨g, j * 6 + 2, none⟩ = some ve ∧ w.cell? ⟨g, j * 6 + 3, none⟩ = some vf ∧ PlainM B T 48 3 w ve ss[j].e.length ∧ PlainM B T 48 3 w vf ss[j].f.length ∧
   ∀ i, i = 0 ∨ i = 1 ∨ i = 4 ∨ i = 5 → (∃ y, w.cell? ⟨g, j * 6 + i, none⟩ = some y) ∧ w.frozen? ⟨g, j * 6 + i, none⟩ = false ∧ ∀ u, plainV u → MSh B T w (w.setCell ⟨g, j * 6 + i, none⟩ u) := by
 obtain ⟨g', cur, he, hB, hT, hg, hz, hc⟩ := h
 simp only [Value.slice.injEq, Option.some.injEq, Addr.mk.injEq, and_true, true_and] at he
 subst he
 obtain ⟨⟨ve, vf, k2, k3, p2, p3⟩, hp⟩ := hc j hj
 refine ⟨ve, vf, ?_, ?_, p2, p3, fun i hi => ?_⟩
 ·rw [cell_of_row w g _ cur _ (0, 0) hg]; exact k2
 ·rw [cell_of_row w g _ cur _ (0, 0) hg]; exact k3
 ·have hlt : j * 6 + i < cur.size := by omega
  have := rowm_cell hg hlt
  exact ⟨⟨_, this.1⟩, this.2, fun u pu => MSh.set hg hB hT (v := cur[j * 6 + i]) (by simp [hlt]) (hp i hi _ (by simp [hlt])) pu⟩
theorem FuncsM.at {B T : Nat} {w : World} {g : Nat} {fs : List Fu} (h : FuncsM B T w (.slice (some ⟨g, 0, none⟩) fs.length fs.length) fs) (j : Nat) (hj : j < fs.length) :
  ∃ vp vb, w.cell? ⟨g, j * 3 + 1, none⟩ = some vp ∧ w.cell? ⟨g, j * 3 + 2, none⟩ = some vb ∧ PlainM B T 9 1 w vp fs[j].params.length ∧ StmtsM B T w vb fs[j].body ∧
   (∃ y, w.cell? ⟨g, j * 3, none⟩ = some y) ∧ w.frozen? ⟨g, j * 3, none⟩ = false ∧ ∀ u, plainV u → MSh B T w (w.setCell ⟨g, j * 3, none⟩ u) := by
 obtain ⟨g', cur, he, hB, hT, hg, hz, hc⟩ := h
 simp only [Value.slice.injEq, Option.some.injEq, Addr.mk.injEq, and_true, true_and] at he
 subst he
 obtain ⟨⟨ve, vf, k2, k3, p2, p3⟩, hp⟩ := hc j hj
 have hlt : j * 3 < cur.size := by omega
 have := rowm_cell hg hlt
 refine ⟨ve, vf, ?_, ?_, p2, p3, ⟨_, this.1⟩, this.2, fun u pu => MSh.set hg hB hT (v := cur[j * 3]) (by simp [hlt]) (hp _ (by simp [hlt])) pu⟩
 ·rw [cell_of_row w g _ cur _ (0, 0) hg]; exact k2
 ·rw [cell_of_row w g _ cur _ (0, 0) hg]; exact k3
end
section
open Go.RowKit
theorem ret_int' {k : IntKind} {a b : Int} (h : a = b) : Ending.returned (.int k a) = .returned (.int k b) := by rw [h]
end
section
open Go.RowKit
def cntS (s : St) : Nat := 4 + 3 * s.e.length + 3 * s.f.length
def cntF (f : Fu) : Nat := 1 + f.params.length + sumBy cntS f.body
end
section
open Go.RowKit
end
end Go.Proofs.YtlamjfhhefcohaaGreatDoor
