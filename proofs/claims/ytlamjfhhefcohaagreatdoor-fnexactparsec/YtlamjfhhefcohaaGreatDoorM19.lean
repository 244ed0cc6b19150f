import Derived.Test.YtlamjfhhefcohaaGreatDoorM18
import Derived.Laws.Strings
import Derived.OwnWalk
import Derived.Laws.OwnMore
namespace Go.Proofs.YtlamjfhhefcohaaGreatDoor
set_option linter.unusedVariables false
set_option linter.unusedSimpArgs false
set_option maxRecDepth 100000
set_option maxHeartbeats 16000000
section
open Go.RowKit
set_option maxHeartbeats 2000000 in
theorem gtree_any (t : Tr) (vg vf : Value) (w : World) (ht : smallT t) (hg : Globs w vg t.globals) (hf : Funcs w vf t.funcs) :
  Calls Tryz.prog 17 #[.agg #[vg, vf]] w fun e w' => e = .returned (.bool (treeB t)) ∧ Below w.heap.size w w' := by
 obtain ⟨gs, fs⟩ := t
 simp only at hg hf ⊢
 have HS : Hid (gs.length ≤ 1048576 ∧ fs.length ≤ 1048576 ∧ ∀ f ∈ fs, smallF f) := ht
 have hgl : gs.length ≤ 1048576 := HS.out.1
 have hfl : fs.length ≤ 1048576 := HS.out.2.1
 obtain ⟨ag, cg, rfl, -, -, hgc⟩ := hg
 obtain ⟨af, cf, rfl, -, -, hfc⟩ := hf
 have HGC : Hid (0 < gs.length → ∃ b off, ag = some ⟨b, off, none⟩ ∧ GlobsC w b off gs) := hgc
 have HFC : Hid (0 < fs.length → ∃ b off, af = some ⟨b, off, none⟩ ∧ FuncsC w b off fs) := hfc
 clear hgc hfc ht
 by_cases h5 : 50 < gs.length
 ·go_enter Tryz.func17, Tryz.ntmps17
  go_wp2_with fail
  go_ret
  exact ⟨ret_bool (by simp only [treeB, decide_eq_false (show ¬ gs.length ≤ 50 by omega), Bool.false_and]), (Below.refl _ _).alloc (Nat.le_refl _) _⟩
 by_cases h6 : 50 < fs.length
 ·go_enter Tryz.func17, Tryz.ntmps17
  go_wp2_with fail
  go_ret
  exact ⟨ret_bool (by simp only [treeB, decide_eq_false (show ¬ fs.length ≤ 50 by omega), Bool.false_and, Bool.and_false]), (Below.refl _ _).alloc (Nat.le_refl _) _⟩
 have HTB : Hid (treeB ⟨gs, fs⟩ = (gs.all globB && fs.all funcB)) := by
  show _ = _
  simp only [treeB, decide_eq_true (show gs.length ≤ 50 by omega), decide_eq_true (show fs.length ≤ 50 by omega), Bool.true_and]
 go_enter Tryz.func17, Tryz.ntmps17
 go_wp2_with fail
 go_loopw [3] (fun i wr => ∃ k : Nat, k ≤ gs.length ∧ i = .int .i64 k ∧ (∀ g ∈ gs.take k, globB g = true) ∧ Below (w.heap.size + 1) (w.alloc (.cells #[.slice ag gs.length cg, .slice af fs.length cf] 26)) wr) (fun i _ => gs.length - (RowKit.intOf i).toNat)
 case atStart => exact ⟨0, Nat.zero_le _, rfl, by simp, Below.refl _ _⟩
 case round =>
  obtain ⟨k, hk, rfl, hg, hB⟩ := hrel
  have HG : Hid (∀ g ∈ gs.take k, globB g = true) := hg
  clear hg
  have hBw := one_below hB
  by_cases hlt : k < gs.length
  ·obtain ⟨b, off, rfl, hc⟩ := HGC.out (by omega)
   obtain ⟨d0, d1⟩ := (hc.below hBw) k hlt
   have HE : Hid (gs.take (k + 1) = gs.take k ++ [gs[k]]) := take_succ gs k hlt
   have HX : Hid (globB gs[k] = false → gs.all globB = false) := allG_bad hlt
   clear hc
   generalize gs[k] = g at d0 d1 HE HX
   obtain ⟨x0, x1⟩ := box2 hB
   obtain ⟨s, z⟩ := g
   simp only at d0 d1
   cases hv : nameB s
   ·have hv2 : globB ⟨s, z⟩ = false := by simp only [globB, hv, Bool.false_and]
    have HV : Hid (globB ⟨s, z⟩ = false) := hv2
    clear hv2
    go_wp2_with (go_at_call 37; refine (name_any _ _).mono ?_; rintro e w' ⟨rfl, rfl⟩; rw [hv])
    go_ret
    exact ⟨ret_bool (by rw [HTB.out, HX.out HV.out]; rfl), hBw⟩
   cases hz : decide (0 ≤ z ∧ z ≤ 4000)
   ·have hv2 : globB ⟨s, z⟩ = false := by simp only [globB, hv, hz, Bool.and_false]
    have HV : Hid (globB ⟨s, z⟩ = false) := hv2
    have HZ : Hid (decide (0 ≤ z ∧ z ≤ 4000) = false) := hz
    clear hv2 hz
    go_wp2_with (first | (go_at_call 37; refine (name_any _ _).mono ?_; rintro e w' ⟨rfl, rfl⟩; rw [hv]) | (go_at_call 38; refine (in_any _ _ _ _).mono ?_; rintro e w' ⟨rfl, rfl⟩; rw [HZ.out]))
    go_ret
    exact ⟨ret_bool (by rw [HTB.out, HX.out HV.out]; rfl), hBw⟩
   ·have HV : Hid (globB ⟨s, z⟩ = true) := by
     show _ = _
     simp only [globB, hv, hz, Bool.and_self]
    have HZ : Hid (decide (0 ≤ z ∧ z ≤ 4000) = true) := hz
    clear hz
    go_wp2_with (first | (go_at_call 37; refine (name_any _ _).mono ?_; rintro e w' ⟨rfl, rfl⟩; rw [hv]) | (go_at_call 38; refine (in_any _ _ _ _).mono ?_; rintro e w' ⟨rfl, rfl⟩; rw [HZ.out]))
    go_roundw
    case rel =>
     refine ⟨k + 1, by omega, by go_num, fun m hm => ?_, hB⟩
     rw [HE.out] at hm
     rcases List.mem_append.1 hm with hm | hm
     ·exact HG.out m hm
     ·rw [List.mem_singleton.1 hm]; exact HV.out
    case measure => simp [RowKit.intOf]; omega
  ·have HA : Hid (gs.all globB = true) := by
    show _ = _
    rw [List.all_eq_true]
    have := HG.out
    rw [List.take_of_length_le (by omega)] at this
    exact this
   clear HG HGC
   obtain ⟨x0, x1⟩ := box2 hB
   go_wp2_with fail
   clear x0 x1
   go_loopw [4] (fun i wr => ∃ k : Nat, k ≤ fs.length ∧ i = .int .i64 k ∧ (∀ f ∈ fs.take k, funcB f = true) ∧ Below (w.heap.size + 1) (w.alloc (.cells #[.slice ag gs.length cg, .slice af fs.length cf] 26)) wr) (fun i _ => fs.length - (RowKit.intOf i).toNat)
   case atStart => exact ⟨0, Nat.zero_le _, rfl, by simp, hB⟩
   case round =>
    clear hB hBw hlt
    obtain ⟨k, hk, rfl, hg, hB⟩ := hrel
    have HG : Hid (∀ f ∈ fs.take k, funcB f = true) := hg
    clear hg
    have hBw := one_below hB
    by_cases hlt : k < fs.length
    ·obtain ⟨b, off, rfl, hc⟩ := HFC.out (by omega)
     obtain ⟨vp, vb, ⟨d0, d1, d2⟩, hp, hs⟩ := (hc.below hBw) k hlt
     have HE : Hid (fs.take (k + 1) = fs.take k ++ [fs[k]]) := take_succ fs k hlt
     have HX : Hid (funcB fs[k] = false → fs.all funcB = false) := allF_bad hlt
     have HSM : Hid (smallF fs[k]) := HS.out.2.2 fs[k] (List.getElem_mem hlt)
     clear hc
     generalize fs[k] = f at d0 d1 d2 HE HX HSM hp hs
     have HP : Hid (Strs wr vp f.params) := hp
     have HB : Hid (Stmts wr vb f.body) := hs
     obtain ⟨a2, k2, rfl, -, -, -⟩ := hp
     obtain ⟨a3, k3, rfl, -, -, -⟩ := hs
     obtain ⟨x0, x1⟩ := box2 hB
     go_wp2_with fail
     refine (gfunc_any f _ _ _ HSM.out HP.out HB.out).mono ?_
     rintro e w2 ⟨rfl, hb2⟩
     have hBx2 := hb2
     clear x0 x1
     have hB2 := hB.trans (hBx2.mono (by have := hB.size; simp at this; omega))
     clear d0 d1 d2 hb2
     cases hv : funcB f
     ·go_wp2_with fail
      go_ret
      exact ⟨ret_bool (by rw [HTB.out, HX.out hv]; simp), one_below hB2⟩
     ·go_wp2_with fail
      go_roundw
      case rel =>
       refine ⟨k + 1, by omega, by go_num, fun m hm => ?_, hB2⟩
       rw [HE.out] at hm
       rcases List.mem_append.1 hm with hm | hm
       ·exact HG.out m hm
       ·rw [List.mem_singleton.1 hm]; exact hv
      case measure => simp [RowKit.intOf]; omega
    ·have HA2 : Hid (fs.all funcB = true) := by
      show _ = _
      rw [List.all_eq_true]
      have := HG.out
      rw [List.take_of_length_le (by omega)] at this
      exact this
     obtain ⟨x0, x1⟩ := box2 hB
     go_wp2_with fail
     go_ret
     exact ⟨ret_bool (by rw [HTB.out, HA.out, HA2.out]; rfl), hBw⟩
end
section
open Go.RowKit
end
section
open Go.RowKit
theorem nameB_small {s : ByteArray} (h : nameB s = true) : s.size ≤ 20 := by
 simp only [nameB, decide_eq_true_eq] at h
 exact h.2.1
theorem nil_small {s : ByteArray} (h : (s.toList == []) = true) : s.size ≤ 20 := by
 have e : s.toList = [] := by simpa using h
 rw [ByteArray.toList_eq] at e
 have e2 : s.data.size = 0 := by rw [← Array.length_toList, e]; rfl
 show s.data.size ≤ 20
 omega
theorem nodeB_small {n : Nd} (h : nodeB n = true) : n.name.size ≤ 20 := by
 unfold nodeB at h
 split at h
 ·rw [Bool.and_eq_true] at h; exact nil_small h.2
 ·split at h
  ·rw [Bool.and_eq_true] at h; exact nameB_small h.2
  ·split at h
   ·rw [Bool.and_eq_true] at h; exact nameB_small h.2
   ·split at h
    ·rw [Bool.and_eq_true] at h; exact nil_small h.2
    ·split at h
     ·rw [Bool.and_eq_true] at h; exact nil_small h.2
     ·split at h
      ·rw [Bool.and_eq_true] at h; exact nil_small h.2
      ·cases h
structure OkS (s : St) : Prop where
 e : s.e.length ≤ 2000
 f : s.f.length ≤ 2000
 nm : s.name.size ≤ 20
 ne : ∀ n ∈ s.e, n.name.size ≤ 20
 nf : ∀ n ∈ s.f, n.name.size ≤ 20
theorem OkS.of {s : St} (h : stmtB s = true) (he : s.e.length ≤ 2000) (hf : s.f.length ≤ 2000) : OkS s := by
 unfold stmtB at h
 simp only [Bool.and_eq_true] at h
 obtain ⟨⟨⟨⟨⟨⟨a1, a2⟩, a3⟩, a4⟩, a5⟩, a6⟩, a7⟩ := h
 refine ⟨he, hf, ?_, fun n hn => nodeB_small (one_good a3 n hn), fun n hn => ?_⟩
 ·split at a2
  ·exact nameB_small a2
  ·exact nil_small a2
 ·split at a4
  ·exact nodeB_small (one_good a4 n hn)
  ·have e : s.f = [] := List.eq_nil_of_length_eq_zero (by simpa using a4)
   rw [e] at hn
   cases hn
theorem nodeSum_in {l : List St} {s : St} (h : s ∈ l) : s.e.length + s.f.length ≤ nodeSum l := by
 induction l with
 | nil => cases h
 | cons a r ih =>
  simp only [nodeSum]
  rcases List.mem_cons.1 h with rfl | h
  ·omega
  ·have := ih h; omega
theorem func_parts {f : Fu} (h : funcB f = true) : f.name.size ≤ 20 ∧ f.params.length ≤ 6 ∧ f.body.length ≤ 500 ∧ (∀ p ∈ f.params, p.size ≤ 20) ∧ fitB f.body = true ∧ ∀ s ∈ f.body, stmtB s = true ∧ s.e.length ≤ 2000 ∧ s.f.length ≤ 2000 := by
 unfold funcB stmtsB at h
 simp only [Bool.and_eq_true, decide_eq_true_eq] at h
 obtain ⟨h1, h2, h3, h4, ⟨h5, h6⟩, h7⟩ := h
 refine ⟨nameB_small h1, h2, h3, fun p hp => nameB_small (List.all_eq_true.1 h4 p hp), h7, fun s hs => ⟨List.all_eq_true.1 h6 s hs, ?_⟩⟩
 have := nodeSum_in hs
 omega
structure OkF (f : Fu) : Prop where
 nm : f.name.size ≤ 20
 ps : f.params.length ≤ 6
 body : f.body.length ≤ 500
 pn : ∀ p ∈ f.params, p.size ≤ 20
 ok : ∀ s ∈ f.body, OkS s
theorem OkS.wf {s : St} (h : OkS s) : wfSt s := by
 obtain ⟨h1, h2, h3, h4, h5⟩ := h
 exact ⟨by omega, ⟨by omega, fun n hn => by have := h4 n hn; omega⟩, ⟨by omega, fun n hn => by have := h5 n hn; omega⟩⟩
theorem OkF.wf {f : Fu} (h : OkF f) : wfFu f := by
 obtain ⟨h1, h2, h3, h4, h5⟩ := h
 exact ⟨by omega, ⟨by omega, fun p hp => by have := h4 p hp; omega⟩, ⟨by omega, fun s hs => (h5 s hs).wf⟩⟩
theorem OkF.small {f : Fu} (h : OkF f) : smallF f := by
 obtain ⟨h1, h2, h3, h4, h5⟩ := h
 exact ⟨by omega, by omega, fun s hs => ⟨by have := (h5 s hs).e; omega, by have := (h5 s hs).f; omega⟩⟩
theorem OkF.of {f : Fu} (h : funcB f = true) : OkF f := by
 obtain ⟨p1, p2, p3, p4, -, p6⟩ := func_parts h
 exact ⟨p1, p2, p3, p4, fun s hs => OkS.of (p6 s hs).1 (p6 s hs).2.1 (p6 s hs).2.2⟩
theorem OkF.tree {t : Tr} (h : treeB t = true) : t.globals.length ≤ 50 ∧ t.funcs.length ≤ 50 ∧ ∀ f ∈ t.funcs, OkF f := by
 unfold treeB at h
 simp only [Bool.and_eq_true, decide_eq_true_eq] at h
 obtain ⟨h1, h2, -, h4⟩ := h
 exact ⟨h1, h2, fun f hf => OkF.of (List.all_eq_true.1 h4 f hf)⟩
end
section
open Go.RowKit
def PgL (T : Nat → To) (n : Nat) : Nat → PS → Tr → Tr → PS → Prop
 | 0, s, t, t', s' => (s.er ≠ 0 ∨ (T s.i).kind = 4) ∧ t' = t ∧ s' = s
 | k + 1, s, t, t', s' => s.er = 0 ∧ (T s.i).kind ≠ 4 ∧ ∃ x s1, Tp T n s x s1 ∧ PgL T n k s1 (addT t x) t' s'
theorem Pg.steps {T : Nat → To} {n : Nat} {s : PS} {t t' : Tr} {s' : PS} (h : Pg T n s t t' s') : ∃ k, PgL T n k s t t' s' := by
 induction h with
 | done s t h => exact ⟨0, h, rfl, rfl⟩
 | more s t x s1 t' s' h0 h4 h1 h2 ih =>
  obtain ⟨k, hk⟩ := ih
  exact ⟨k + 1, h0, h4, x, s1, h1, hk⟩
theorem PgL.pg {T : Nat → To} {n : Nat} : ∀ {k : Nat} {s : PS} {t t' : Tr} {s' : PS}, PgL T n k s t t' s' → Pg T n s t t' s'
 | 0, s, t, t', s', h => by
  obtain ⟨h1, rfl, rfl⟩ := h
  exact .done _ _ h1
 | k + 1, s, t, t', s', h => by
  obtain ⟨h0, h4, x, s1, hx, h2⟩ := h
  exact .more s t x s1 t' s' h0 h4 hx h2.pg
theorem PgL.end' {T : Nat → To} {n : Nat} {k : Nat} {s : PS} {t t' : Tr} {s' : PS} (h : PgL T n k s t t' s') (hd : s.er ≠ 0 ∨ (T s.i).kind = 4) : t' = t ∧ s' = s := by
 cases k with
 | zero => exact ⟨h.2.1, h.2.2⟩
 | succ k =>
  obtain ⟨h0, h4, -⟩ := h
  rcases hd with hd | hd
  ·exact absurd h0 hd
  ·exact absurd hd h4
theorem PgL.more' {T : Nat → To} {n : Nat} {k : Nat} {s : PS} {t t' : Tr} {s' : PS} (h : PgL T n k s t t' s') (h0 : s.er = 0) (h4 : (T s.i).kind ≠ 4) : ∃ m x s1, k = m + 1 ∧ Tp T n s x s1 ∧ PgL T n m s1 (addT t x) t' s' := by
 cases k with
 | zero =>
  rcases h.1 with h1 | h1
  ·exact absurd h0 h1
  ·exact absurd h1 h4
 | succ k =>
  obtain ⟨-, -, x, s1, hx, h2⟩ := h
  exact ⟨k, x, s1, rfl, hx, h2⟩
theorem PgL.sizes {T : Nat → To} {n K : Nat} {k : Nat} {s1 : PS} {t t' : Tr} {s' : PS} {x : Gl ⊕ Fu} (h : PgL T n k s1 (addT t x) t' s') (hs : smT K 0 t') (hK : K ≤ 20000) : (∀ f, x = .inr f → f.params.length ≤ 1000000 ∧ szS f.body ≤ 1000000) ∧ t.globals.length ≤ 100000 ∧ t.funcs.length ≤ 100000 := by
 obtain ⟨⟨a, ha⟩, b, hb⟩ := h.pg.grow
 have hl := hs.gl
 rw [ha, hb] at hl
 simp only [List.length_append] at hl
 refine ⟨fun f hf => ?_, ?_, ?_⟩
 ·subst hf
  have := hs.fs f (by rw [hb]; simp [addT])
  unfold smF at this
  omega
 ·cases x <;> simp only [addT, List.length_append, List.length_singleton] at hl <;> omega
 ·cases x <;> simp only [addT, List.length_append, List.length_singleton] at hl <;> omega
theorem szS_in {s : St} {l : List St} (h : s ∈ l) : s.e.length + s.f.length ≤ szS l := by
 induction l with
 | nil => cases h
 | cons a r ih =>
  rw [szS_cons]
  rcases List.mem_cons.1 h with rfl | h
  ·omega
  ·have := ih h; omega
theorem szS_ln (l : List St) : l.length ≤ szS l := by
 induction l with
 | nil => exact Nat.le_refl _
 | cons s l ih => rw [szS_cons]; simp only [List.length_cons]; omega
theorem smT.small {K : Nat} {t : Tr} (h : smT K 0 t) (hK : K ≤ 20000) : smallT t := by
 have hl := h.gl
 refine ⟨by omega, by omega, fun f hf => ?_⟩
 have hf := h.fs f hf
 unfold smF at hf
 have := szS_ln f.body
 refine ⟨by omega, by omega, fun s hs => ?_⟩
 have := szS_in hs
 exact ⟨by omega, by omega⟩
def s00 : PS := ⟨0, 0, 0, 0⟩
def t00 : Tr := ⟨[], []⟩
structure Rn (l : List UInt8) (T : Nat → To) (K k : Nat) (t : Tr) (s : PS) : Prop where
 las : Las T K
 kl : K ≤ l.length
 pg : PgL T (20 * K + 40) k s00 t00 t s
 sm : smT K 0 t
theorem rn_ends {l : List UInt8} {T : Nat → To} {K : Nat} (hL : Las T K) (hK : K ≤ l.length) : ∃ k t s, Rn l T K k t s := by
 obtain ⟨t, s, h1, h2, h3⟩ := pg_ends hL (Mo K s00) s00 t00 rfl (Nat.zero_le _) ⟨by have := mo_le (K := K) (s := s00) (Nat.zero_le _); simp only [t00, List.length_nil]; omega, fun f hf => by cases hf⟩
 obtain ⟨k, hk⟩ := h1.steps
 exact ⟨k, t, s, hL, hK, hk, h3⟩
noncomputable def ansR (l : List UInt8) (t : Tr) (s : PS) : Int × Int × Tr := if s.er ≠ 0 then (s.er, s.pl, t00) else if treeB t = true then (0, 0, t) else (5, (l.length : Int), t00)
end
section
open Go.RowKit
end
section
open Go.RowKit
theorem owns_below {w w' : World} {base e size n cap g : Nat} {xs : List Value} (h : w.ownsRow base e size (.slice (some ⟨g, 0, none⟩) n cap) n xs) (hb : Below w.heap.size w w') : w'.ownsRow base e size (.slice (some ⟨g, 0, none⟩) n cap) n xs := by
 refine ⟨h.1, ?_⟩
 rcases h.2 with hn | ⟨g', cap', cur, he, hB, hg, rest⟩
 ·exact .inl hn
 ·refine .inr ⟨g', cap', cur, he, hB, ?_, rest⟩
  rw [hb.block g' (Array.getElem?_eq_some_iff.1 hg).1]
  exact hg
def putAt (xs : List Value) (i : Nat) : List Value → List Value
 | [] => xs
 | u :: r => putAt (xs.set i u) (i + 1) r
def setMany (w : World) (g i : Nat) : List Value → World
 | [] => w
 | u :: r => setMany (w.setCell ⟨g, i, none⟩ u) g (i + 1) r
theorem putAt_length (us : List Value) : ∀ xs i, (putAt xs i us).length = xs.length := by
 induction us with
 | nil => intro xs i; rfl
 | cons u r ih => intro xs i; simp [putAt, ih]
theorem putAt_get (us : List Value) : ∀ xs i j, i + us.length ≤ xs.length → (putAt xs i us)[j]? = if i ≤ j ∧ j < i + us.length then us[j - i]? else xs[j]? := by
 induction us with
 | nil => intro xs i j h; simp [putAt]; intro h1 h2; omega
 | cons u r ih =>
  intro xs i j h
  simp only [List.length_cons] at h
  simp only [putAt, List.length_cons]
  rw [ih _ _ _ (by simp; omega)]
  by_cases h1 : i + 1 ≤ j ∧ j < i + 1 + r.length
  ·rw [if_pos h1, if_pos (by omega), show j - i = (j - (i + 1)) + 1 by omega, List.getElem?_cons_succ]
  ·rw [if_neg h1]
   by_cases h2 : j = i
   ·subst h2
    rw [if_pos (by omega), List.getElem?_set_self (by omega)]
    simp
   ·rw [if_neg (by omega), List.getElem?_set_ne (by omega)]
theorem owns_put {base e size n cap g : Nat} (us : List Value) : ∀ (w : World) (xs : List Value) (i : Nat), w.ownsRow base e size (.slice (some ⟨g, 0, none⟩) n cap) n xs → (setMany w g i us).ownsRow base e size (.slice (some ⟨g, 0, none⟩) n cap) n (putAt xs i us) := by
 induction us with
 | nil => intro w xs i h; exact h
 | cons u r ih => intro w xs i h; exact ih _ _ _ (h.stored i u).1
theorem below_put {B : Nat} {a : World} {g : Nat} (hg : B ≤ g) (us : List Value) : ∀ (w : World) (i : Nat), Below B a w → Below B a (setMany w g i us) := by
 induction us with
 | nil => intro w i h; exact h
 | cons u r ih => intro w i h; exact ih _ _ (h.setCell hg u)
def RowIs (enc : Nat → List Value) (m k : Nat) (xs : List Value) : Prop := ∀ j, j < k → ∀ i, i < m → xs[j * m + i]? = (enc j)[i]?
theorem RowIs.step {enc enc' : Nat → List Value} {m k : Nat} {xs us : List Value} (h : RowIs enc m k xs) (he : ∀ j, j < k → enc' j = enc j) (hk : enc' k = us) (hu : us.length = m) (hl : (k + 1) * m ≤ xs.length) : RowIs enc' m (k + 1) (putAt xs (k * m) us) := by
 intro j hj i hi
 have e1 : (k + 1) * m = k * m + m := by rw [Nat.add_mul, Nat.one_mul]
 rw [putAt_get us xs (k * m) (j * m + i) (by omega)]
 by_cases hjk : j = k
 ·subst hjk
  rw [if_pos (by omega), show j * m + i - j * m = i by omega, hk]
 ·have hlt : j < k := by omega
  have : j * m + m ≤ k * m := by
   have := Nat.mul_le_mul_right m (show j + 1 ≤ k by omega)
   rw [Nat.add_mul, Nat.one_mul] at this
   exact this
  rw [if_neg (by omega), h j hlt i hi, he j hlt]
theorem RowIs.zero (enc : Nat → List Value) (m : Nat) (xs : List Value) : RowIs enc m 0 xs := fun j hj => absurd hj (Nat.not_lt_zero _)
theorem own_old {w : World} {base e size n cap g : Nat} {xs : List Value} (h : w.ownsRow base e size (.slice (some ⟨g, 0, none⟩) n cap) n xs) (j : Nat) (hj : j < n * size) : (∃ y, w.cell? ⟨g, j, none⟩ = some y) ∧ w.frozen? ⟨g, j, none⟩ = false := by
 have hlen := h.1
 exact ⟨⟨xs[j]'(by omega), by rw [h.cellAt j (by omega)]; simp⟩, h.frozenAt j⟩
def encN (n : Nd) : List Value := [.int .i64 n.kind, .int .i64 n.val, .string n.name]
theorem inf_node : (Tryz.prog.info? 48).map (fun i => (i.zero, i.size, i.bytes)) = some (some (.agg #[.int .i64 0, .int .i64 0, .string ⟨#[]⟩]), 3, 32) := by kernel_rfl
def NodesO (B : Nat) (w : World) (v : Value) (ns : List Nd) : Prop := ∃ g xs, v = .slice (some ⟨g, 0, none⟩) ns.length ns.length ∧ w.ownsRow B 48 3 v ns.length xs ∧ RowIs (fun j => encN (ns.getD j ⟨0, 0, ⟨#[]⟩⟩)) 3 ns.length xs
theorem NodesO.nodes {B : Nat} {w : World} {v : Value} {ns : List Nd} (h : NodesO B w v ns) (hm : ns.length ≤ 9223372036854775807) : Nodes w v ns := by
 obtain ⟨g, xs, rfl, ho, hx⟩ := h
 refine ⟨_, _, rfl, Nat.le_refl _, hm, fun h0 => ⟨g, 0, rfl, fun j hj => ?_⟩⟩
 have hl := ho.1
 have key : ∀ i, i < 3 → w.cell? ⟨g, 0 + j * 3 + i, none⟩ = (encN ns[j])[i]? := fun i hi => by
  rw [Nat.zero_add, ho.cellAt (j * 3 + i) (by omega), hx j hj i hi]
  simp [List.getD, hj]
 exact ⟨key 0 (by omega), key 1 (by omega), key 2 (by omega)⟩
theorem NodesO.below {B : Nat} {w w' : World} {v : Value} {ns : List Nd} (h : NodesO B w v ns) (hb : Below w.heap.size w w') : NodesO B w' v ns := by
 obtain ⟨g, xs, rfl, ho, hx⟩ := h
 exact ⟨g, xs, rfl, owns_below ho hb, hx⟩
end
section
open Go.RowKit
def Keep (B : Nat) (w w' : World) : Prop := ∀ k, B ≤ k → k < w.heap.size → w'.heap[k]? = w.heap[k]?
theorem Keep.of_below {B : Nat} {w w' : World} (h : Below w.heap.size w w') : Keep B w w' := fun k _ hk => h.block k hk
theorem setMany_heap (us : List Value) : ∀ (w : World) (g i k : Nat), k ≠ g → (setMany w g i us).heap[k]? = w.heap[k]? := by
 induction us with
 | nil => intro w g i k h; rfl
 | cons u r ih =>
  intro w g i k h
  simp only [setMany]
  rw [ih _ _ _ _ h]
  exact Below.heap_setCell w ⟨g, i, none⟩ u k h
theorem Keep.of_set {B : Nat} {w : World} {g i : Nat} {us : List Value} (h : g < B) : Keep B w (setMany w g i us) := fun k hk _ => setMany_heap us w g i k (by omega)
theorem Keep.trans {B : Nat} {w1 w2 w3 : World} (h : Keep B w1 w2) (hs : w1.heap.size ≤ w2.heap.size) (k : Keep B w2 w3) : Keep B w1 w3 := fun i hi hl => (k i hi (by omega)).trans (h i hi hl)
theorem owns_keep {w w' : World} {base e size n cap g : Nat} {xs : List Value} (h : w.ownsRow base e size (.slice (some ⟨g, 0, none⟩) n cap) n xs) (hb : Keep base w w') : w'.ownsRow base e size (.slice (some ⟨g, 0, none⟩) n cap) n xs := by
 refine ⟨h.1, ?_⟩
 rcases h.2 with hn | ⟨g', cap', cur, he, hB, hg, rest⟩
 ·exact .inl hn
 ·refine .inr ⟨g', cap', cur, he, hB, ?_, rest⟩
  rw [hb g' hB (Array.getElem?_eq_some_iff.1 hg).1]
  exact hg
theorem owns_mono {w : World} {base base' e size n cap g : Nat} {xs : List Value} (h : w.ownsRow base e size (.slice (some ⟨g, 0, none⟩) n cap) n xs) (hb : base' ≤ base) : w.ownsRow base' e size (.slice (some ⟨g, 0, none⟩) n cap) n xs := by
 refine ⟨h.1, ?_⟩
 rcases h.2 with hn | ⟨g', cap', cur, he, hB, rest⟩
 ·exact .inl hn
 ·exact .inr ⟨g', cap', cur, he, by omega, rest⟩
theorem NodesO.keep {B : Nat} {w w' : World} {v : Value} {ns : List Nd} (h : NodesO B w v ns) (hb : Keep B w w') : NodesO B w' v ns := by
 obtain ⟨g, xs, rfl, ho, hx⟩ := h
 exact ⟨g, xs, rfl, owns_keep ho hb, hx⟩
theorem NodesO.mono {B B' : Nat} {w : World} {v : Value} {ns : List Nd} (h : NodesO B w v ns) (hb : B' ≤ B) : NodesO B' w v ns := by
 obtain ⟨g, xs, rfl, ho, hx⟩ := h
 exact ⟨g, xs, rfl, owns_mono ho hb, hx⟩
def encP (s : ByteArray) : List Value := [.string s]
def StrsO (B : Nat) (w : World) (v : Value) (ns : List ByteArray) : Prop := ∃ g xs, v = .slice (some ⟨g, 0, none⟩) ns.length ns.length ∧ w.ownsRow B 9 1 v ns.length xs ∧ RowIs (fun j => encP (ns.getD j ⟨#[]⟩)) 1 ns.length xs
theorem StrsO.strs {B : Nat} {w : World} {v : Value} {ns : List ByteArray} (h : StrsO B w v ns) (hm : ns.length ≤ 9223372036854775807) : Strs w v ns := by
 obtain ⟨g, xs, rfl, ho, hx⟩ := h
 refine ⟨_, _, rfl, Nat.le_refl _, hm, fun h0 => ⟨g, 0, rfl, fun j hj => ?_⟩⟩
 have hl := ho.1
 have hk := hx j hj 0 (by omega)
 rw [Nat.zero_add, ho.cellAt j (by omega)]
 rw [show j * 1 + 0 = j by omega] at hk
 rw [hk]
 simp [encP, List.getD, hj]
theorem StrsO.keep {B : Nat} {w w' : World} {v : Value} {ns : List ByteArray} (h : StrsO B w v ns) (hb : Keep B w w') : StrsO B w' v ns := by
 obtain ⟨g, xs, rfl, ho, hx⟩ := h
 exact ⟨g, xs, rfl, owns_keep ho hb, hx⟩
theorem StrsO.mono {B B' : Nat} {w : World} {v : Value} {ns : List ByteArray} (h : StrsO B w v ns) (hb : B' ≤ B) : StrsO B' w v ns := by
 obtain ⟨g, xs, rfl, ho, hx⟩ := h
 exact ⟨g, xs, rfl, owns_mono ho hb, hx⟩
theorem inf_str : (Tryz.prog.info? 9).map (fun i => (i.zero, i.size, i.bytes)) = some (some (.string ⟨#[]⟩), 1, 16) := by kernel_rfl
def encG (g : Gl) : List Value := [.string g.name, .int .i64 g.size]
def GlobsO (B : Nat) (w : World) (v : Value) (ns : List Gl) : Prop := ∃ g xs, v = .slice (some ⟨g, 0, none⟩) ns.length ns.length ∧ w.ownsRow B 74 2 v ns.length xs ∧ RowIs (fun j => encG (ns.getD j ⟨⟨#[]⟩, 0⟩)) 2 ns.length xs
theorem GlobsO.globs {B : Nat} {w : World} {v : Value} {ns : List Gl} (h : GlobsO B w v ns) (hm : ns.length ≤ 9223372036854775807) : Globs w v ns := by
 obtain ⟨g, xs, rfl, ho, hx⟩ := h
 refine ⟨_, _, rfl, Nat.le_refl _, hm, fun h0 => ⟨g, 0, rfl, fun j hj => ?_⟩⟩
 have hl := ho.1
 have key : ∀ i, i < 2 → w.cell? ⟨g, 0 + j * 2 + i, none⟩ = (encG ns[j])[i]? := fun i hi => by
  rw [Nat.zero_add, ho.cellAt (j * 2 + i) (by omega), hx j hj i hi]
  simp [List.getD, hj]
 exact ⟨key 0 (by omega), key 1 (by omega)⟩
theorem GlobsO.keep {B : Nat} {w w' : World} {v : Value} {ns : List Gl} (h : GlobsO B w v ns) (hb : Keep B w w') : GlobsO B w' v ns := by
 obtain ⟨g, xs, rfl, ho, hx⟩ := h
 exact ⟨g, xs, rfl, owns_keep ho hb, hx⟩
theorem GlobsO.mono {B B' : Nat} {w : World} {v : Value} {ns : List Gl} (h : GlobsO B w v ns) (hb : B' ≤ B) : GlobsO B' w v ns := by
 obtain ⟨g, xs, rfl, ho, hx⟩ := h
 exact ⟨g, xs, rfl, owns_mono ho hb, hx⟩
theorem inf_glob : (Tryz.prog.info? 74).map (fun i => (i.zero, i.size, i.bytes)) = some (some (.agg #[.string ⟨#[]⟩, .int .i64 0]), 2, 24) := by kernel_rfl
end
section
open Go.RowKit
theorem Keep.setCell {B : Nat} {a w : World} {p : Addr} {u : Value} (h : Keep B a w) (hp : p.block < B) : Keep B a (w.setCell p u) := fun k hk hl => (Below.heap_setCell w p u k (by omega)).trans (h k hk hl)
theorem Keep.refl (B : Nat) (w : World) : Keep B w w := fun _ _ _ => rfl
theorem Keep.mono {B B' : Nat} {w w' : World} (h : Keep B w w') (hb : B ≤ B') : Keep B' w w' := fun k hk hl => h k (by omega) hl
set_option maxRecDepth 8000 in
theorem box666 {w w' : World} {t u v : TypeId} {a0 a1 a2 a3 a4 a5 b0 b1 b2 b3 b4 b5 c0 c1 c2 c3 c4 c5 : Value} (h : Below (w.heap.size + 1 + 1 + 1) (((w.alloc (.cells #[a0, a1, a2, a3, a4, a5] t)).alloc (.cells #[b0, b1, b2, b3, b4, b5] u)).alloc (.cells #[c0, c1, c2, c3, c4, c5] v)) w') :
  (w'.cell? ⟨w.heap.size, 0, none⟩ = some a0 ∧ w'.cell? ⟨w.heap.size, 1, none⟩ = some a1 ∧ w'.cell? ⟨w.heap.size, 2, none⟩ = some a2 ∧ w'.cell? ⟨w.heap.size, 3, none⟩ = some a3 ∧ w'.cell? ⟨w.heap.size, 4, none⟩ = some a4 ∧ w'.cell? ⟨w.heap.size, 5, none⟩ = some a5) ∧
  (w'.cell? ⟨w.heap.size + 1, 0, none⟩ = some b0 ∧ w'.cell? ⟨w.heap.size + 1, 1, none⟩ = some b1 ∧ w'.cell? ⟨w.heap.size + 1, 2, none⟩ = some b2 ∧ w'.cell? ⟨w.heap.size + 1, 3, none⟩ = some b3 ∧ w'.cell? ⟨w.heap.size + 1, 4, none⟩ = some b4 ∧ w'.cell? ⟨w.heap.size + 1, 5, none⟩ = some b5) ∧
  (w'.cell? ⟨w.heap.size + 1 + 1, 0, none⟩ = some c0 ∧ w'.cell? ⟨w.heap.size + 1 + 1, 1, none⟩ = some c1 ∧ w'.cell? ⟨w.heap.size + 1 + 1, 2, none⟩ = some c2 ∧ w'.cell? ⟨w.heap.size + 1 + 1, 3, none⟩ = some c3 ∧ w'.cell? ⟨w.heap.size + 1 + 1, 4, none⟩ = some c4 ∧ w'.cell? ⟨w.heap.size + 1 + 1, 5, none⟩ = some c5) ∧
  (∀ i, w'.frozen? ⟨w.heap.size + 1, i, none⟩ = false) ∧ (∀ i, w'.frozen? ⟨w.heap.size + 1 + 1, i, none⟩ = false) := by
 refine ⟨⟨?_, ?_, ?_, ?_, ?_, ?_⟩, ⟨?_, ?_, ?_, ?_, ?_, ?_⟩, ⟨?_, ?_, ?_, ?_, ?_, ?_⟩, fun i => ?_, fun i => ?_⟩
 all_goals first
  | (rw [h.cell (by first | (simp; done) | (simp; omega))]; go_simp; done)
  | (rw [h.frozen (by first | (simp; done) | (simp; omega))]; go_simp; done)
end
section
open Go.RowKit
def encS (s : St) (v : Value × Value) : List Value := [.int .i64 s.kind, .string s.name, v.1, v.2, .int .i64 s.thn, .int .i64 s.els]
def dSt : St := ⟨0, ⟨#[]⟩, [], [], 0, 0⟩
def StmtsO (B : Nat) (w : World) (v : Value) (ns : List St) : Prop := ∃ (g : Nat) (xs : List Value) (V : Nat → Value × Value), v = .slice (some ⟨g, 0, none⟩) ns.length ns.length ∧ w.ownsRow B 46 6 v ns.length xs ∧ RowIs (fun j => encS (ns.getD j dSt) (V j)) 6 ns.length xs ∧ ∀ j (h : j < ns.length), NodesO B w (V j).1 ns[j].e ∧ NodesO B w (V j).2 ns[j].f
theorem StmtsO.stmts {B : Nat} {w : World} {v : Value} {ns : List St} (h : StmtsO B w v ns) (hm : ns.length ≤ 9223372036854775807) (hs : ∀ s ∈ ns, smallS s) : Stmts w v ns := by
 obtain ⟨g, xs, V, rfl, ho, hx, hn⟩ := h
 refine ⟨_, _, rfl, Nat.le_refl _, hm, fun h0 => ⟨g, 0, rfl, fun j hj => ?_⟩⟩
 have hl := ho.1
 have key : ∀ i, i < 6 → w.cell? ⟨g, 0 + j * 6 + i, none⟩ = (encS ns[j] (V j))[i]? := fun i hi => by
  rw [Nat.zero_add, ho.cellAt (j * 6 + i) (by omega), hx j hj i hi]
  simp [List.getD, hj]
 have hsm := hs ns[j] (List.getElem_mem hj)
 exact ⟨(V j).1, (V j).2, ⟨key 0 (by omega), key 1 (by omega), key 2 (by omega), key 3 (by omega), key 4 (by omega), key 5 (by omega)⟩, (hn j hj).1.nodes (by have := hsm.1; omega), (hn j hj).2.nodes (by have := hsm.2; omega)⟩
theorem StmtsO.keep {B : Nat} {w w' : World} {v : Value} {ns : List St} (h : StmtsO B w v ns) (hb : Keep B w w') : StmtsO B w' v ns := by
 obtain ⟨g, xs, V, rfl, ho, hx, hn⟩ := h
 exact ⟨g, xs, V, rfl, owns_keep ho hb, hx, fun j hj => ⟨(hn j hj).1.keep hb, (hn j hj).2.keep hb⟩⟩
theorem StmtsO.mono {B B' : Nat} {w : World} {v : Value} {ns : List St} (h : StmtsO B w v ns) (hb : B' ≤ B) : StmtsO B' w v ns := by
 obtain ⟨g, xs, V, rfl, ho, hx, hn⟩ := h
 exact ⟨g, xs, V, rfl, owns_mono ho hb, hx, fun j hj => ⟨(hn j hj).1.mono hb, (hn j hj).2.mono hb⟩⟩
theorem inf_stmt : (Tryz.prog.info? 46).map (fun i => (i.zero, i.size, i.bytes)) = some (some (.agg #[.int .i64 0, .string ⟨#[]⟩, .slice none 0 0, .slice none 0 0, .int .i64 0, .int .i64 0]), 6, 88) := by kernel_rfl
theorem own_lt {w : World} {base e size n cap g : Nat} {xs : List Value} (h : w.ownsRow base e size (.slice (some ⟨g, 0, none⟩) n cap) n xs) : base ≤ g ∧ g < w.heap.size := h.lt g rfl
end
section
open Go.RowKit
set_option maxRecDepth 8000 in
theorem box333 {w w' : World} {t u v : TypeId} {a0 a1 a2 b0 b1 b2 c0 c1 c2 : Value} (h : Below (w.heap.size + 1 + 1 + 1) (((w.alloc (.cells #[a0, a1, a2] t)).alloc (.cells #[b0, b1, b2] u)).alloc (.cells #[c0, c1, c2] v)) w') :
  (w'.cell? ⟨w.heap.size, 0, none⟩ = some a0 ∧ w'.cell? ⟨w.heap.size, 1, none⟩ = some a1 ∧ w'.cell? ⟨w.heap.size, 2, none⟩ = some a2) ∧
  (w'.cell? ⟨w.heap.size + 1, 0, none⟩ = some b0 ∧ w'.cell? ⟨w.heap.size + 1, 1, none⟩ = some b1 ∧ w'.cell? ⟨w.heap.size + 1, 2, none⟩ = some b2) ∧
  (w'.cell? ⟨w.heap.size + 1 + 1, 0, none⟩ = some c0 ∧ w'.cell? ⟨w.heap.size + 1 + 1, 1, none⟩ = some c1 ∧ w'.cell? ⟨w.heap.size + 1 + 1, 2, none⟩ = some c2) ∧
  (∀ i, w'.frozen? ⟨w.heap.size + 1, i, none⟩ = false) ∧ (∀ i, w'.frozen? ⟨w.heap.size + 1 + 1, i, none⟩ = false) := by
 refine ⟨⟨?_, ?_, ?_⟩, ⟨?_, ?_, ?_⟩, ⟨?_, ?_, ?_⟩, fun i => ?_, fun i => ?_⟩
 all_goals first
  | (rw [h.cell (by first | (simp; done) | (simp; omega))]; go_simp; done)
  | (rw [h.frozen (by first | (simp; done) | (simp; omega))]; go_simp; done)
set_option maxRecDepth 8000 in
theorem box222 {w w' : World} {t u v : TypeId} {a0 a1 b0 b1 c0 c1 : Value} (h : Below (w.heap.size + 1 + 1 + 1) (((w.alloc (.cells #[a0, a1] t)).alloc (.cells #[b0, b1] u)).alloc (.cells #[c0, c1] v)) w') :
  (w'.cell? ⟨w.heap.size, 0, none⟩ = some a0 ∧ w'.cell? ⟨w.heap.size, 1, none⟩ = some a1) ∧
  (w'.cell? ⟨w.heap.size + 1, 0, none⟩ = some b0 ∧ w'.cell? ⟨w.heap.size + 1, 1, none⟩ = some b1) ∧
  (w'.cell? ⟨w.heap.size + 1 + 1, 0, none⟩ = some c0 ∧ w'.cell? ⟨w.heap.size + 1 + 1, 1, none⟩ = some c1) ∧
  (∀ i, w'.frozen? ⟨w.heap.size + 1, i, none⟩ = false) ∧ (∀ i, w'.frozen? ⟨w.heap.size + 1 + 1, i, none⟩ = false) := by
 refine ⟨⟨?_, ?_⟩, ⟨?_, ?_⟩, ⟨?_, ?_⟩, fun i => ?_, fun i => ?_⟩
 all_goals first
  | (rw [h.cell (by first | (simp; done) | (simp; omega))]; go_simp; done)
  | (rw [h.frozen (by first | (simp; done) | (simp; omega))]; go_simp; done)
def encF (f : Fu) (v : Value × Value) : List Value := [.string f.name, v.1, v.2]
def dFu : Fu := ⟨⟨#[]⟩, [], []⟩
def FuncsO (B : Nat) (w : World) (v : Value) (ns : List Fu) : Prop := ∃ (g : Nat) (xs : List Value) (V : Nat → Value × Value), v = .slice (some ⟨g, 0, none⟩) ns.length ns.length ∧ w.ownsRow B 43 3 v ns.length xs ∧ RowIs (fun j => encF (ns.getD j dFu) (V j)) 3 ns.length xs ∧ ∀ j (h : j < ns.length), StrsO B w (V j).1 ns[j].params ∧ StmtsO B w (V j).2 ns[j].body
theorem FuncsO.funcs {B : Nat} {w : World} {v : Value} {ns : List Fu} (h : FuncsO B w v ns) (hm : ns.length ≤ 9223372036854775807) (hs : ∀ s ∈ ns, smallF s) : Funcs w v ns := by
 obtain ⟨g, xs, V, rfl, ho, hx, hn⟩ := h
 refine ⟨_, _, rfl, Nat.le_refl _, hm, fun h0 => ⟨g, 0, rfl, fun j hj => ?_⟩⟩
 have hl := ho.1
 have key : ∀ i, i < 3 → w.cell? ⟨g, 0 + j * 3 + i, none⟩ = (encF ns[j] (V j))[i]? := fun i hi => by
  rw [Nat.zero_add, ho.cellAt (j * 3 + i) (by omega), hx j hj i hi]
  simp [List.getD, hj]
 have hsm := hs ns[j] (List.getElem_mem hj)
 exact ⟨(V j).1, (V j).2, ⟨key 0 (by omega), key 1 (by omega), key 2 (by omega)⟩, (hn j hj).1.strs (by have := hsm.1; omega), (hn j hj).2.stmts (by have := hsm.2.1; omega) hsm.2.2⟩
theorem FuncsO.keep {B : Nat} {w w' : World} {v : Value} {ns : List Fu} (h : FuncsO B w v ns) (hb : Keep B w w') : FuncsO B w' v ns := by
 obtain ⟨g, xs, V, rfl, ho, hx, hn⟩ := h
 exact ⟨g, xs, V, rfl, owns_keep ho hb, hx, fun j hj => ⟨(hn j hj).1.keep hb, (hn j hj).2.keep hb⟩⟩
theorem FuncsO.mono {B B' : Nat} {w : World} {v : Value} {ns : List Fu} (h : FuncsO B w v ns) (hb : B' ≤ B) : FuncsO B' w v ns := by
 obtain ⟨g, xs, V, rfl, ho, hx, hn⟩ := h
 exact ⟨g, xs, V, rfl, owns_mono ho hb, hx, fun j hj => ⟨(hn j hj).1.mono hb, (hn j hj).2.mono hb⟩⟩
theorem inf_func : (Tryz.prog.info? 43).map (fun i => (i.zero, i.size, i.bytes)) = some (some (.agg #[.string ⟨#[]⟩, .slice none 0 0, .slice none 0 0]), 3, 64) := by kernel_rfl
end
section
open Go.RowKit
structure MSh (B T : Nat) (w w' : World) : Prop where
 os : w'.os = w.os
 tape : w'.tape = w.tape
 output : w'.output = w.output
 size : w.heap.size ≤ w'.heap.size
 block : ∀ k, k < w.heap.size → w'.heap[k]? = w.heap[k]? ∨ (B ≤ k ∧ k < T ∧ ∃ cur cur' t, w.heap[k]? = some (.cells cur t (0, 0)) ∧ w'.heap[k]? = some (.cells cur' t (0, 0)) ∧ cur'.size = cur.size ∧ ∀ (i : Nat) (a : Option Addr) (n c : Nat), cur'[i]? = some (.slice a n c) ↔ cur[i]? = some (.slice a n c))
theorem MSh.refl (B T : Nat) (w : World) : MSh B T w w := ⟨rfl, rfl, rfl, Nat.le_refl _, fun _ _ => .inl rfl⟩
theorem MSh.trans {B T : Nat} {w1 w2 w3 : World} (h : MSh B T w1 w2) (k : MSh B T w2 w3) : MSh B T w1 w3 := by
 refine ⟨k.os.trans h.os, k.tape.trans h.tape, k.output.trans h.output, Nat.le_trans h.size k.size, fun i hi => ?_⟩
 rcases h.block i hi with h1 | ⟨b1, t1, c1, c2, t, e1, e2, s1, m1⟩
 ·rcases k.block i (by have := h.size; omega) with h2 | ⟨b2, t2, d1, d2, u, f1, f2, s2, m2⟩
  ·exact .inl (h2.trans h1)
  ·exact .inr ⟨b2, t2, d1, d2, u, h1.symm.trans f1, f2, s2, m2⟩
 ·rcases k.block i (by have := h.size; omega) with h2 | ⟨b2, t2, d1, d2, u, f1, f2, s2, m2⟩
  ·exact .inr ⟨b1, t1, c1, c2, t, e1, h2.trans e2, s1, m1⟩
  ·rw [e2] at f1
   injection f1 with f1
   injection f1 with f1 f1' _
   subst f1
   subst f1'
   exact .inr ⟨b1, t1, c1, d2, t, e1, f2, s2.trans s1, fun i a n c => (m2 i a n c).trans (m1 i a n c)⟩
theorem MSh.of_below {B T : Nat} {w w' : World} (h : Below w.heap.size w w') : MSh B T w w' := ⟨h.os, h.tape, h.output, h.size, fun k hk => .inl (h.block k hk)⟩
theorem MSh.below {B T : Nat} {w w' : World} (h : MSh B T w w') (hB : B ≤ w.heap.size) : Below B w w' := by
 refine ⟨h.os, h.tape, h.output, h.size, fun k hk => ?_⟩
 rcases h.block k (by omega) with h1 | ⟨b1, _⟩
 ·exact h1
 ·omega
theorem MSh.keep {B T : Nat} {w w' : World} (h : MSh B T w w') : Keep T w w' := by
 intro k hk hl
 rcases h.block k hl with h1 | ⟨_, b2, _⟩
 ·exact h1
 ·omega
def plainV (v : Value) : Prop := ∀ a n c, v ≠ .slice a n c
theorem MSh.set {B T : Nat} {w : World} {g i : Nat} {cur : Array Value} {t : TypeId} {u v : Value} (hg : w.heap[g]? = some (.cells cur t (0, 0))) (hB : B ≤ g) (hT : g < T) (hv : cur[i]? = some v) (pv : plainV v) (pu : plainV u) : MSh B T w (w.setCell ⟨g, i, none⟩ u) := by
 refine ⟨rfl, rfl, rfl, by simp, fun k hk => ?_⟩
 by_cases e : k = g
 ·subst e
  refine .inr ⟨hB, hT, cur, cur.setIfInBounds i u, t, hg, heap_setCell_same w k i cur t u hg, by simp, fun j a n c => ?_⟩
  have hi : i < cur.size := (Array.getElem?_eq_some_iff.1 hv).1
  rw [Array.getElem?_setIfInBounds]
  by_cases ej : i = j
  ·subst ej
   rw [if_pos rfl, if_pos hi, hv]
   constructor
   ·intro h; exact absurd (Option.some.inj h) (pu a n c)
   ·intro h; exact absurd (Option.some.inj h) (pv a n c)
  ·rw [if_neg ej]
 ·exact .inl (Below.heap_setCell w ⟨g, i, none⟩ u k e)
def RowM (B T : Nat) (t m : Nat) (w : World) (v : Value) (n : Nat) (C : Array Value → Prop) : Prop := ∃ g cur, v = .slice (some ⟨g, 0, none⟩) n n ∧ B ≤ g ∧ g < T ∧ w.heap[g]? = some (.cells cur t (0, 0)) ∧ cur.size = n * m ∧ C cur
def plainAll (cur : Array Value) : Prop := ∀ (i : Nat) (v : Value), cur[i]? = some v → plainV v
theorem RowM.sh {B T t m n : Nat} {w w' : World} {v : Value} {C : Array Value → Prop} (h : RowM B T t m w v n C) (s : MSh B T w w') (hC : ∀ cur cur' : Array Value, cur'.size = cur.size → (∀ (i : Nat) (a : Option Addr) (n c : Nat), cur'[i]? = some (.slice a n c) ↔ cur[i]? = some (.slice a n c)) → C cur → C cur') : RowM B T t m w' v n C := by
 obtain ⟨g, cur, rfl, hB, hT, hg, hz, hc⟩ := h
 have hlt := (Array.getElem?_eq_some_iff.1 hg).1
 rcases s.block g hlt with h1 | ⟨_, _, c1, c2, u, e1, e2, s1, m1⟩
 ·exact ⟨g, cur, rfl, hB, hT, h1.trans hg, hz, hc⟩
 ·rw [hg] at e1
  injection e1 with e1
  injection e1 with e1 e1' _
  subst e1
  subst e1'
  exact ⟨g, c2, rfl, hB, hT, e2, s1.trans hz, hC _ _ s1 m1 hc⟩
theorem plainAll_sh (cur cur' : Array Value) (hs : cur'.size = cur.size) (h : ∀ (i : Nat) (a : Option Addr) (n c : Nat), cur'[i]? = some (.slice a n c) ↔ cur[i]? = some (.slice a n c)) (hp : plainAll cur) : plainAll cur' := by
 intro i v hv a n c e
 subst e
 exact hp i _ ((h i a n c).1 hv) a n c rfl
def PlainM (B T : Nat) (t m : Nat) (w : World) (v : Value) (n : Nat) : Prop := RowM B T t m w v n plainAll
theorem PlainM.sh {B T t m n : Nat} {w w' : World} {v : Value} (h : PlainM B T t m w v n) (s : MSh B T w w') : PlainM B T t m w' v n := RowM.sh h s plainAll_sh
theorem rowm_cell {w : World} {g i : Nat} {cur : Array Value} {t : TypeId} (hg : w.heap[g]? = some (.cells cur t (0, 0))) (hi : i < cur.size) : w.cell? ⟨g, i, none⟩ = some cur[i] ∧ w.frozen? ⟨g, i, none⟩ = false := by
 refine ⟨?_, frozen_of_row w g i cur t hg⟩
 rw [cell_of_row w g i cur t (0, 0) hg]
 simp [hi]
theorem plain_int (k : IntKind) (n : Int) : plainV (.int k n) := fun _ _ _ h => by cases h
theorem plain_str (s : ByteArray) : plainV (.string s) := fun _ _ _ h => by cases h
theorem PlainM.set {B T t m n : Nat} {w : World} {g i : Nat} {u : Value} (h : PlainM B T t m w (.slice (some ⟨g, 0, none⟩) n n) n) (hi : i < n * m) (pu : plainV u) : MSh B T w (w.setCell ⟨g, i, none⟩ u) := by
 obtain ⟨g', cur, he, hB, hT, hg, hz, hc⟩ := h
 simp only [Value.slice.injEq, Option.some.injEq, Addr.mk.injEq, and_true, true_and] at he
 subst he
 exact MSh.set hg hB hT (v := cur[i]'(by omega)) (by simp) (hc i _ (by simp)) pu
theorem PlainM.old {B T t m n : Nat} {w : World} {g i : Nat} (h : PlainM B T t m w (.slice (some ⟨g, 0, none⟩) n n) n) (hi : i < n * m) : (∃ y, w.cell? ⟨g, i, none⟩ = some y) ∧ w.frozen? ⟨g, i, none⟩ = false := by
 obtain ⟨g', cur, he, hB, hT, hg, hz, hc⟩ := h
 simp only [Value.slice.injEq, Option.some.injEq, Addr.mk.injEq, and_true, true_and] at he
 subst he
 have := rowm_cell (i := i) hg (by omega)
 exact ⟨⟨_, this.1⟩, this.2⟩
def StmtsM (B T : Nat) (w : World) (v : Value) (ss : List St) : Prop := ∃ g cur, v = .slice (some ⟨g, 0, none⟩) ss.length ss.length ∧ B ≤ g ∧ g < T ∧ w.heap[g]? = some (.cells cur 46 (0, 0)) ∧ cur.size = ss.length * 6 ∧
 ∀ j (h : j < ss.length), (∃ ve vf, cur[j * 6 + 2]? = some ve ∧ cur[j * 6 + 3]? = some vf ∧ PlainM B T 48 3 w ve ss[j].e.length ∧ PlainM B T 48 3 w vf ss[j].f.length) ∧
  ∀ i, i = 0 ∨ i = 1 ∨ i = 4 ∨ i = 5 → ∀ v, cur[j * 6 + i]? = some v → plainV v
def FuncsM (B T : Nat) (w : World) (v : Value) (fs : List Fu) : Prop := ∃ g cur, v = .slice (some ⟨g, 0, none⟩) fs.length fs.length ∧ B ≤ g ∧ g < T ∧ w.heap[g]? = some (.cells cur 43 (0, 0)) ∧ cur.size = fs.length * 3 ∧
 ∀ j (h : j < fs.length), (∃ vp vb, cur[j * 3 + 1]? = some vp ∧ cur[j * 3 + 2]? = some vb ∧ PlainM B T 9 1 w vp fs[j].params.length ∧ StmtsM B T w vb fs[j].body) ∧ ∀ v, cur[j * 3]? = some v → plainV v
theorem slice_kept {cur cur' : Array Value} (m1 : ∀ (i : Nat) (a : Option Addr) (n c : Nat), cur'[i]? = some (.slice a n c) ↔ cur[i]? = some (.slice a n c)) {i : Nat} {v : Value} (h : cur[i]? = some v) (hv : ∃ a n c, v = .slice a n c) : cur'[i]? = some v := by
 obtain ⟨a, n, c, rfl⟩ := hv
 exact (m1 i a n c).2 h
theorem plain_kept {cur cur' : Array Value} (hs : cur'.size = cur.size) (m1 : ∀ (i : Nat) (a : Option Addr) (n c : Nat), cur'[i]? = some (.slice a n c) ↔ cur[i]? = some (.slice a n c)) {i : Nat} (h : ∀ v, cur[i]? = some v → plainV v) : ∀ v, cur'[i]? = some v → plainV v := by
 intro v hv a n c e
 subst e
 exact h _ ((m1 i a n c).1 hv) a n c rfl
theorem PlainM.isSlice {B T t m n : Nat} {w : World} {v : Value} (h : PlainM B T t m w v n) : ∃ a n c, v = .slice a n c := by
 obtain ⟨g, cur, rfl, _⟩ := h
 exact ⟨_, _, _, rfl⟩
theorem StmtsM.isSlice {B T : Nat} {w : World} {v : Value} {ss : List St} (h : StmtsM B T w v ss) : ∃ a n c, v = .slice a n c := by
 obtain ⟨g, cur, rfl, _⟩ := h
 exact ⟨_, _, _, rfl⟩
theorem StmtsM.sh {B T : Nat} {w w' : World} {v : Value} {ss : List St} (h : StmtsM B T w v ss) (s : MSh B T w w') : StmtsM B T w' v ss := by
 obtain ⟨g, cur, rfl, hB, hT, hg, hz, hc⟩ := h
 have hlt := (Array.getElem?_eq_some_iff.1 hg).1
 rcases s.block g hlt with h1 | ⟨_, _, c1, c2, u, e1, e2, s1, m1⟩
 ·refine ⟨g, cur, rfl, hB, hT, h1.trans hg, hz, fun j hj => ?_⟩
  obtain ⟨⟨ve, vf, k2, k3, p2, p3⟩, hp⟩ := hc j hj
  exact ⟨⟨ve, vf, k2, k3, p2.sh s, p3.sh s⟩, hp⟩
 ·rw [hg] at e1
  injection e1 with e1
  injection e1 with e1 e1' _
  subst e1
  subst e1'
  refine ⟨g, c2, rfl, hB, hT, e2, s1.trans hz, fun j hj => ?_⟩
  obtain ⟨⟨ve, vf, k2, k3, p2, p3⟩, hp⟩ := hc j hj
  exact ⟨⟨ve, vf, slice_kept m1 k2 p2.isSlice, slice_kept m1 k3 p3.isSlice, p2.sh s, p3.sh s⟩, fun i hi => plain_kept s1 m1 (hp i hi)⟩
theorem FuncsM.sh {B T : Nat} {w w' : World} {v : Value} {fs : List Fu} (h : FuncsM B T w v fs) (s : MSh B T w w') : FuncsM B T w' v fs := by
 obtain ⟨g, cur, rfl, hB, hT, hg, hz, hc⟩ := h
 have hlt := (Array.getElem?_eq_some_iff.1 hg).1
 rcases s.block g hlt with h1 | ⟨_, _, c1, c2, u, e1, e2, s1, m1⟩
 ·refine ⟨g, cur, rfl, hB, hT, h1.trans hg, hz, fun j hj => ?_⟩
  obtain ⟨⟨ve, vf, k2, k3, p2, p3⟩, hp⟩ := hc j hj
  exact ⟨⟨ve, vf, k2, k3, p2.sh s, p3.sh s⟩, hp⟩
 ·rw [hg] at e1
  injection e1 with e1
  injection e1 with e1 e1' _
  subst e1
  subst e1'
  refine ⟨g, c2, rfl, hB, hT, e2, s1.trans hz, fun j hj => ?_⟩
  obtain ⟨⟨ve, vf, k2, k3, p2, p3⟩, hp⟩ := hc j hj
  exact ⟨⟨ve, vf, slice_kept m1 k2 p2.isSlice, slice_kept m1 k3 p3.isSlice, p2.sh s, p3.sh s⟩, plain_kept s1 m1 hp⟩
theorem StmtsM.at {B T : Nat} {w : World} {g : Nat} {ss : List St} (h : StmtsM B T w (.slice (some ⟨g, 0, none⟩) ss.length ss.length) ss) (j : Nat) (hj : j < ss.length) :
  ∃ ve vf, w.cell? ⟨g, j * 6 + 2, none⟩ = some ve ∧ w.cell? ⟨g, j * 6 + 3, none⟩ = some vf ∧ PlainM B T 48 3 w ve ss[j].e.length ∧ PlainM B T 48 3 w vf ss[j].f.length ∧
   ∀ i, i = 0 ∨ i = 1 ∨ i = 4 ∨ i = 5 → (∃ y, w.cell? ⟨g, j * 6 + i, none⟩ = some y) ∧ w.frozen? ⟨g, j * 6 + i, none⟩ = false ∧ ∀ u, plainV u → MSh B T w (w.setCell ⟨g, j * 6 + i, none⟩ u) := by
 obtain ⟨g', cur, he, hB, hT, hg, hz, hc⟩ := h
 simp only [Value.slice.injEq, Option.some.injEq, Addr.mk.injEq, and_true, true_and] at he
 subst he
 obtain ⟨⟨ve, vf, k2, k3, p2, p3⟩, hp⟩ := hc j hj
 refine ⟨ve, vf, ?_, ?_, p2, p3, fun i hi => ?_⟩
 ·rw [cell_of_row w g _ cur _ (0, 0) hg]; exact k2
 ·rw [cell_of_row w g _ cur _ (0, 0) hg]; exact k3
 ·have hlt : j * 6 + i < cur.size := by omega
  have := rowm_cell hg hlt
  exact ⟨⟨_, this.1⟩, this.2, fun u pu => MSh.set hg hB hT (v := cur[j * 6 + i]) (by simp [hlt]) (hp i hi _ (by simp [hlt])) pu⟩
theorem FuncsM.at {B T : Nat} {w : World} {g : Nat} {fs : List Fu} (h : FuncsM B T w (.slice (some ⟨g, 0, none⟩) fs.length fs.length) fs) (j : Nat) (hj : j < fs.length) :
  ∃ vp vb, w.cell? ⟨g, j * 3 + 1, none⟩ = some vp ∧ w.cell? ⟨g, j * 3 + 2, none⟩ = some vb ∧ PlainM B T 9 1 w vp fs[j].params.length ∧ StmtsM B T w vb fs[j].body ∧
   (∃ y, w.cell? ⟨g, j * 3, none⟩ = some y) ∧ w.frozen? ⟨g, j * 3, none⟩ = false ∧ ∀ u, plainV u → MSh B T w (w.setCell ⟨g, j * 3, none⟩ u) := by
 obtain ⟨g', cur, he, hB, hT, hg, hz, hc⟩ := h
 simp only [Value.slice.injEq, Option.some.injEq, Addr.mk.injEq, and_true, true_and] at he
 subst he
 obtain ⟨⟨ve, vf, k2, k3, p2, p3⟩, hp⟩ := hc j hj
 have hlt : j * 3 < cur.size := by omega
 have := rowm_cell hg hlt
 refine ⟨ve, vf, ?_, ?_, p2, p3, ⟨_, this.1⟩, this.2, fun u pu => MSh.set hg hB hT (v := cur[j * 3]) (by simp [hlt]) (hp _ (by simp [hlt])) pu⟩
 ·rw [cell_of_row w g _ cur _ (0, 0) hg]; exact k2
 ·rw [cell_of_row w g _ cur _ (0, 0) hg]; exact k3
end
section
open Go.RowKit
theorem ret_int' {k : IntKind} {a b : Int} (h : a = b) : Ending.returned (.int k a) = .returned (.int k b) := by rw [h]
set_option maxHeartbeats 1000000 in
theorem markNodes_any (B T : Nat) (v : Value) (n k : Nat) (w : World) (hn : n ≤ 1048576) (h0 : 0 < k) (hk : (k : Int) + 3 * n ≤ 1000000000) (h : PlainM B T 48 3 w v n) :
  Calls Tryz.prog 135 #[v, .int .i64 k] w fun e w' => e = .returned (.int .i64 ((k + 3 * n : Nat) : Int)) ∧ MSh B T w w' := by
 have HP : Hid (PlainM B T 48 3 w v n) := h
 obtain ⟨g, cur, rfl, -, -, -, -, -⟩ := h
 go_enter Tryz.func135, Tryz.ntmps135
 go_wp2_with fail
 go_loopw [1, 5] (fun q i wr => ∃ j : Nat, j ≤ n ∧ i = .int .i64 j ∧ q = .int .i64 ((k + 3 * j : Nat) : Int) ∧ MSh B T w wr) (fun _ i _ => n - (RowKit.intOf i).toNat)
 case atStart => exact ⟨0, Nat.zero_le _, rfl, by simp, MSh.refl _ _ _⟩
 case round =>
  obtain ⟨j, hj, rfl, rfl, hS⟩ := hrel
  by_cases hlt : j < n
  ·have hP := HP.out.sh hS
   generalize hq : k + 3 * j = q
   have hqb : (q : Int) + 3 ≤ 1000000000 := by omega
   have hq0 : 0 < q := by omega
   have HQ : Hid (k + 3 * j = q) := hq
   clear hq
   obtain ⟨⟨y0, o0⟩, f0⟩ := hP.old (i := j * 3) (by omega)
   have s0 := hP.set (i := j * 3) (u := .int .i64 ((q : Int))) (by omega) (plain_int _ _)
   have P0 := hP.sh s0
   have S0 := hS.trans s0
   obtain ⟨⟨y1, o1⟩, f1⟩ := P0.old (i := j * 3 + 1) (by omega)
   have s1 := P0.set (i := j * 3 + 1) (u := .int .i64 ((q : Int) + 1)) (by omega) (plain_int _ _)
   have P1 := P0.sh s1
   have S1 := S0.trans s1
   obtain ⟨⟨y2, o2⟩, f2⟩ := P1.old (i := j * 3 + 2) (by omega)
   have H2 : Hid _ := P1
   have HS2 : Hid _ := S1
   clear P1
   go_wp2_with fail
   rw [show ((q : Int) + 1 + 1) = ((q + 2 : Nat) : Int) by omega]
   refine (mtext_any (q + 2) (by omega) (by omega) _).mono ?_
   rintro e w2 ⟨rfl, hb2⟩
   have Q2 : PlainM B T 48 3 w2 (.slice (some ⟨g, 0, none⟩) n n) n := PlainM.sh H2.out (MSh.of_below hb2)
   have R2 := HS2.out.trans (MSh.of_below hb2)
   obtain ⟨⟨z2, p2⟩, r2⟩ := Q2.old (i := j * 3 + 2) (by omega)
   have s2 := Q2.set (i := j * 3 + 2) (u := .string (mtxt (q + 2))) (by omega) (plain_str _)
   have P2 := Q2.sh s2
   have S2 := R2.trans s2
   have HF : Hid _ := S2
   try clear hP
   try clear hS
   go_wp2_with fail
   go_roundw
   case rel => exact ⟨j + 1, by omega, by go_num, by rw [show k + 3 * (j + 1) = q + 3 by have := HQ.out; omega]; go_num, HF.out⟩
   case measure => simp [RowKit.intOf]; omega
  ·go_wp2_with fail
   go_ret
   have hjn : j = n := by omega
   exact ⟨ret_int' (by rw [hjn]), hS⟩
set_option maxHeartbeats 1000000 in
theorem markStrs_any (B T : Nat) (v : Value) (n k : Nat) (w : World) (hn : n ≤ 1048576) (h0 : 0 < k) (hk : (k : Int) + 1 * n ≤ 1000000000) (h : PlainM B T 9 1 w v n) :
  Calls Tryz.prog 100 #[v, .int .i64 k] w fun e w' => e = .returned (.int .i64 ((k + 1 * n : Nat) : Int)) ∧ MSh B T w w' := by
 have HP : Hid (PlainM B T 9 1 w v n) := h
 obtain ⟨g, cur, rfl, -, -, -, -, -⟩ := h
 go_enter Tryz.func100, Tryz.ntmps100
 go_wp2_with fail
 go_loopw [1, 5] (fun q i wr => ∃ j : Nat, j ≤ n ∧ i = .int .i64 j ∧ q = .int .i64 ((k + 1 * j : Nat) : Int) ∧ MSh B T w wr) (fun _ i _ => n - (RowKit.intOf i).toNat)
 case atStart => exact ⟨0, Nat.zero_le _, rfl, by simp, MSh.refl _ _ _⟩
 case round =>
  obtain ⟨j, hj, rfl, rfl, hS⟩ := hrel
  by_cases hlt : j < n
  ·have hP := HP.out.sh hS
   generalize hq : k + 1 * j = q
   have hqb : (q : Int) + 1 ≤ 1000000000 := by omega
   have hq0 : 0 < q := by omega
   have HQ : Hid (k + 1 * j = q) := hq
   clear hq
   obtain ⟨⟨y0, o0⟩, f0⟩ := hP.old (i := j) (by omega)
   have H0 : Hid _ := hP
   have HS0 : Hid _ := hS
   clear hP
   go_wp2_with fail
   refine (mtext_any q (by omega) (by omega) _).mono ?_
   rintro e w0 ⟨rfl, hb0⟩
   have Q0 : PlainM B T 9 1 w0 (.slice (some ⟨g, 0, none⟩) n n) n := PlainM.sh H0.out (MSh.of_below hb0)
   have R0 := HS0.out.trans (MSh.of_below hb0)
   obtain ⟨⟨z0, p0⟩, r0⟩ := Q0.old (i := j) (by omega)
   have s0 := Q0.set (i := j) (u := .string (mtxt q)) (by omega) (plain_str _)
   have P0 := Q0.sh s0
   have S0 := R0.trans s0
   have HF : Hid _ := S0
   try clear hP
   try clear hS
   go_wp2_with fail
   go_roundw
   case rel => exact ⟨j + 1, by omega, by go_num, by rw [show k + 1 * (j + 1) = q + 1 by have := HQ.out; omega]; go_num, HF.out⟩
   case measure => simp [RowKit.intOf]; omega
  ·go_wp2_with fail
   go_ret
   have hjn : j = n := by omega
   exact ⟨ret_int' (by rw [hjn]), hS⟩
set_option maxHeartbeats 1000000 in
theorem markGlobs_any (B T : Nat) (v : Value) (n k : Nat) (w : World) (hn : n ≤ 1048576) (h0 : 0 < k) (hk : (k : Int) + 2 * n ≤ 1000000000) (h : PlainM B T 74 2 w v n) :
  Calls Tryz.prog 62 #[v, .int .i64 k] w fun e w' => e = .returned (.int .i64 ((k + 2 * n : Nat) : Int)) ∧ MSh B T w w' := by
 have HP : Hid (PlainM B T 74 2 w v n) := h
 obtain ⟨g, cur, rfl, -, -, -, -, -⟩ := h
 go_enter Tryz.func62, Tryz.ntmps62
 go_wp2_with fail
 go_loopw [1, 5] (fun q i wr => ∃ j : Nat, j ≤ n ∧ i = .int .i64 j ∧ q = .int .i64 ((k + 2 * j : Nat) : Int) ∧ MSh B T w wr) (fun _ i _ => n - (RowKit.intOf i).toNat)
 case atStart => exact ⟨0, Nat.zero_le _, rfl, by simp, MSh.refl _ _ _⟩
 case round =>
  obtain ⟨j, hj, rfl, rfl, hS⟩ := hrel
  by_cases hlt : j < n
  ·have hP := HP.out.sh hS
   generalize hq : k + 2 * j = q
   have hqb : (q : Int) + 2 ≤ 1000000000 := by omega
   have hq0 : 0 < q := by omega
   have HQ : Hid (k + 2 * j = q) := hq
   clear hq
   obtain ⟨⟨y0, o0⟩, f0⟩ := hP.old (i := j * 2) (by omega)
   have H0 : Hid _ := hP
   have HS0 : Hid _ := hS
   clear hP
   go_wp2_with fail
   refine (mtext_any q (by omega) (by omega) _).mono ?_
   rintro e w0 ⟨rfl, hb0⟩
   have Q0 : PlainM B T 74 2 w0 (.slice (some ⟨g, 0, none⟩) n n) n := PlainM.sh H0.out (MSh.of_below hb0)
   have R0 := HS0.out.trans (MSh.of_below hb0)
   obtain ⟨⟨z0, p0⟩, r0⟩ := Q0.old (i := j * 2) (by omega)
   have s0 := Q0.set (i := j * 2) (u := .string (mtxt q)) (by omega) (plain_str _)
   have P0 := Q0.sh s0
   have S0 := R0.trans s0
   obtain ⟨⟨y1, o1⟩, f1⟩ := P0.old (i := j * 2 + 1) (by omega)
   have s1 := P0.set (i := j * 2 + 1) (u := .int .i64 ((q : Int) + 1)) (by omega) (plain_int _ _)
   have P1 := P0.sh s1
   have S1 := S0.trans s1
   have HF : Hid _ := S1
   try clear hP
   try clear hS
   go_wp2_with fail
   go_roundw
   case rel => exact ⟨j + 1, by omega, by go_num, by rw [show k + 2 * (j + 1) = q + 2 by have := HQ.out; omega]; go_num, HF.out⟩
   case measure => simp [RowKit.intOf]; omega
  ·go_wp2_with fail
   go_ret
   have hjn : j = n := by omega
   exact ⟨ret_int' (by rw [hjn]), hS⟩
end
section
open Go.RowKit
def cntS (s : St) : Nat := 4 + 3 * s.e.length + 3 * s.f.length
def cntF (f : Fu) : Nat := 1 + f.params.length + sumBy cntS f.body
def cntT (t : Tr) : Nat := 2 * t.globals.length + sumBy cntF t.funcs
theorem sumBy_le_mul {α : Type} (f g : α → Nat) (c : Nat) (l : List α) (h : ∀ x ∈ l, f x ≤ c * g x + c) : sumBy f l ≤ c * (l.length + sumBy g l) := by
 induction l with
 | nil => simp [sumBy]
 | cons x r ih =>
  have h1 := h x (by simp)
  have h2 := ih (fun y hy => h y (by simp [hy]))
  simp only [sumBy, List.length_cons]
  have e : c * (r.length + 1 + (g x + sumBy g r)) = c * (r.length + sumBy g r) + (c * g x + c) := by
   simp only [Nat.mul_add, Nat.mul_one]; omega
  rw [e]; omega
theorem cntS_le (s : St) : cntS s ≤ 4 * szSt s + 4 := by unfold cntS szSt szNs; omega
theorem cntF_le (f : Fu) : cntF f ≤ 4 * szFu f + 4 := by
 have := sumBy_le_mul cntS szSt 4 f.body (fun s _ => cntS_le s)
 unfold cntF szFu szPs szSs
 omega
theorem cntT_le (t : Tr) : cntT t ≤ 4 * szT t := by
 have := sumBy_le_mul cntF szFu 4 t.funcs (fun f _ => cntF_le f)
 unfold cntT szT szGs szFs
 omega
set_option maxHeartbeats 2000000 in
theorem markStmts_any (B T : Nat) (v : Value) (ss : List St) (k : Nat) (w : World) (hn : ss.length ≤ 1048576) (hsm : ∀ s ∈ ss, smallS s) (h0 : 0 < k) (hk : (k : Int) + (sumBy cntS ss : Nat) ≤ 1000000000) (h : StmtsM B T w v ss) :
  Calls Tryz.prog 101 #[v, .int .i64 k] w fun e w' => e = .returned (.int .i64 ((k + sumBy cntS ss : Nat) : Int)) ∧ MSh B T w w' := by
 have HP : Hid (StmtsM B T w v ss) := h
 have HSM : Hid (∀ s ∈ ss, smallS s) := hsm
 have HK : Hid ((k : Int) + (sumBy cntS ss : Nat) ≤ 1000000000) := hk
 obtain ⟨g, cur, rfl, -, -, -, -, -⟩ := h
 clear hsm hk
 go_enter Tryz.func101, Tryz.ntmps101
 go_wp2_with fail
 go_loopw [1, 5] (fun q i wr => ∃ j : Nat, j ≤ ss.length ∧ i = .int .i64 j ∧ q = .int .i64 ((k + sumBy cntS (ss.take j) : Nat) : Int) ∧ MSh B T w wr) (fun _ i _ => ss.length - (RowKit.intOf i).toNat)
 case atStart => exact ⟨0, Nat.zero_le _, rfl, by simp [sumBy], MSh.refl _ _ _⟩
 case round =>
  obtain ⟨j, hj, rfl, rfl, hS⟩ := hrel
  by_cases hlt : j < ss.length
  ·have HP0 : Hid (StmtsM B T wr (.slice (some ⟨g, 0, none⟩) ss.length ss.length) ss) := HP.out.sh hS
   have HST : Hid _ := sumBy_step cntS ss j hlt
   have hle := sumBy_le cntS ss (j + 1)
   have hsm := HSM.out ss[j] (List.getElem_mem hlt)
   have hcs : cntS ss[j] = 4 + 3 * ss[j].e.length + 3 * ss[j].f.length := rfl
   have hqb : ((k + sumBy cntS (ss.take j) : Nat) : Int) + 4 + 3 * ss[j].e.length + 3 * ss[j].f.length ≤ 1000000000 := by
    have h1 := HST.out
    have h2 := HK.out
    omega
   have hq0 : 0 < k + sumBy cntS (ss.take j) := by omega
   have HC : Hid (cntS ss[j] = 4 + 3 * ss[j].e.length + 3 * ss[j].f.length) := hcs
   have hse := hsm.1
   have hsf := hsm.2
   clear hle hcs hsm
   obtain ⟨ve0, vf0, -, -, -, -, P0⟩ := HP0.out.at j hlt
   obtain ⟨⟨y0, o0⟩, f0, s0⟩ := P0 0 (by simp)
   have HP1 : Hid (StmtsM B T (wr.setCell ⟨g, j * 6, none⟩ (.int .i64 ((k + sumBy cntS (ss.take j) : Nat) : Int))) (.slice (some ⟨g, 0, none⟩) ss.length ss.length) ss) := HP0.out.sh (s0 _ (plain_int _ _))
   have HS1 : Hid (MSh B T w (wr.setCell ⟨g, j * 6, none⟩ (.int .i64 ((k + sumBy cntS (ss.take j) : Nat) : Int)))) := hS.trans (s0 _ (plain_int _ _))
   generalize hq : k + sumBy cntS (ss.take j) = q at hqb hq0 HP1 HS1 ⊢
   have HQ : Hid (k + sumBy cntS (ss.take j) = q) := hq
   generalize hne : ss[j].e.length = ne at hse hqb HC
   generalize hnf : ss[j].f.length = nf at hsf hqb HC
   have HNE : Hid (ss[j].e.length = ne) := hne
   have HNF : Hid (ss[j].f.length = nf) := hnf
   clear hq hne hnf P0 s0 HP0
   rw [Nat.add_zero] at o0 f0
   go_wp2_with fail
   rw [show ((q : Int) + 1) = ((q + 1 : Nat) : Int) by omega]
   refine (mtext_any (q + 1) (by omega) (by omega) _).mono ?_
   rintro e w1 ⟨rfl, hb1⟩
   have HP2 : Hid (StmtsM B T w1 (.slice (some ⟨g, 0, none⟩) ss.length ss.length) ss) := HP1.out.sh (MSh.of_below hb1)
   have HS2 : Hid (MSh B T w w1) := HS1.out.trans (MSh.of_below hb1)
   obtain ⟨ve, vf, c2, c3, pe, pf, P1⟩ := HP2.out.at j hlt
   obtain ⟨⟨y1, o1⟩, f1, s1⟩ := P1 1 (by simp)
   have HP3 : Hid (StmtsM B T (w1.setCell ⟨g, j * 6 + 1, none⟩ (.string (mtxt (q + 1)))) (.slice (some ⟨g, 0, none⟩) ss.length ss.length) ss) := HP2.out.sh (s1 _ (plain_str _))
   have HS3 : Hid (MSh B T w (w1.setCell ⟨g, j * 6 + 1, none⟩ (.string (mtxt (q + 1))))) := HS2.out.trans (s1 _ (plain_str _))
   have HPE : Hid (PlainM B T 48 3 (w1.setCell ⟨g, j * 6 + 1, none⟩ (.string (mtxt (q + 1)))) ve ne) := by rw [← HNE.out]; exact pe.sh (s1 _ (plain_str _))
   obtain ⟨ae, lne, cne, rfl⟩ := pe.isSlice
   obtain ⟨af, lnf, cnf, rfl⟩ := pf.isSlice
   clear P1 s1 pe pf o0 f0 HP1 HS1 hb1
   go_wp2_with fail
   rw [show ((q : Int) + 1 + 1) = ((q + 2 : Nat) : Int) by omega]
   refine (markNodes_any B T _ ne (q + 2) _ hse (by omega) (by omega) HPE.out).mono ?_
   rintro e w2 ⟨rfl, sh2⟩
   generalize hq2 : q + 2 + 3 * ne = q2
   have hq2b : (q2 : Int) + 2 + 3 * nf ≤ 1000000000 := by omega
   have hq20 : 0 < q2 := by omega
   have HQ2 : Hid (q + 2 + 3 * ne = q2) := hq2
   clear hq2
   have HP4 : Hid (StmtsM B T w2 (.slice (some ⟨g, 0, none⟩) ss.length ss.length) ss) := HP3.out.sh sh2
   have HS4 : Hid (MSh B T w w2) := HS3.out.trans sh2
   obtain ⟨ve', vf', -, d3, -, pf', -⟩ := HP4.out.at j hlt
   have HPF : Hid (PlainM B T 48 3 w2 vf' nf) := by rw [← HNF.out]; exact pf'
   obtain ⟨af', lnf', cnf', rfl⟩ := pf'.isSlice
   clear c2 c3 o1 f1 HP3 HS3 sh2 pf'
   go_wp2_with fail
   refine (markNodes_any B T _ nf q2 _ hsf (by omega) (by omega) HPF.out).mono ?_
   rintro e w3 ⟨rfl, sh3⟩
   have HP5 : Hid (StmtsM B T w3 (.slice (some ⟨g, 0, none⟩) ss.length ss.length) ss) := HP4.out.sh sh3
   have HS5 : Hid (MSh B T w w3) := HS4.out.trans sh3
   obtain ⟨_, _, -, -, -, -, P4⟩ := HP5.out.at j hlt
   obtain ⟨⟨y4, o4⟩, f4, s4⟩ := P4 4 (by simp)
   generalize hr : q2 + 3 * nf = r
   have hrb : (r : Int) + 2 ≤ 1000000000 := by omega
   have HRR : Hid (q2 + 3 * nf = r) := hr
   clear hr
   have HP6 : Hid (StmtsM B T (w3.setCell ⟨g, j * 6 + 4, none⟩ (.int .i64 (r : Int))) (.slice (some ⟨g, 0, none⟩) ss.length ss.length) ss) := HP5.out.sh (s4 _ (plain_int _ _))
   have HS6 : Hid (MSh B T w (w3.setCell ⟨g, j * 6 + 4, none⟩ (.int .i64 (r : Int)))) := HS5.out.trans (s4 _ (plain_int _ _))
   obtain ⟨_, _, -, -, -, -, P5⟩ := HP6.out.at j hlt
   obtain ⟨⟨y5, o5⟩, f5, s5⟩ := P5 5 (by simp)
   have HS7 : Hid (MSh B T w ((w3.setCell ⟨g, j * 6 + 4, none⟩ (.int .i64 (r : Int))).setCell ⟨g, j * 6 + 5, none⟩ (.int .i64 ((r : Int) + 1)))) := HS6.out.trans (s5 _ (plain_int _ _))
   clear P4 P5 s4 s5 d3 sh3
   go_wp2_with fail
   go_roundw
   case rel =>
    refine ⟨j + 1, by omega, by go_num, ?_, HS7.out⟩
    have h1 := HST.out
    have h2 := HC.out
    have h3 := HQ.out
    have h4 := HRR.out
    have h5 := HQ2.out
    rw [show k + sumBy cntS (ss.take (j + 1)) = r + 2 by omega]
    go_num
   case measure => simp [RowKit.intOf]; omega
  ·have hjn : ss.take j = ss := List.take_of_length_le (by omega)
   go_wp2_with fail
   go_ret
   exact ⟨ret_int' (by rw [hjn]), hS⟩
end
section
open Go.RowKit
set_option maxHeartbeats 2000000 in
theorem markFuncs_any (B T : Nat) (v : Value) (fs : List Fu) (k : Nat) (w : World) (hn : fs.length ≤ 1048576) (hsm : ∀ f ∈ fs, smallF f) (h0 : 0 < k) (hk : (k : Int) + (sumBy cntF fs : Nat) ≤ 1000000000) (h : FuncsM B T w v fs) :
  Calls Tryz.prog 63 #[v, .int .i64 k] w fun e w' => e = .returned (.int .i64 ((k + sumBy cntF fs : Nat) : Int)) ∧ MSh B T w w' := by
 have HP : Hid (FuncsM B T w v fs) := h
 have HSM : Hid (∀ f ∈ fs, smallF f) := hsm
 have HK : Hid ((k : Int) + (sumBy cntF fs : Nat) ≤ 1000000000) := hk
 obtain ⟨g, cur, rfl, -, -, -, -, -⟩ := h
 clear hsm hk
 go_enter Tryz.func63, Tryz.ntmps63
 go_wp2_with fail
 go_loopw [1, 5] (fun q i wr => ∃ j : Nat, j ≤ fs.length ∧ i = .int .i64 j ∧ q = .int .i64 ((k + sumBy cntF (fs.take j) : Nat) : Int) ∧ MSh B T w wr) (fun _ i _ => fs.length - (RowKit.intOf i).toNat)
 case atStart => exact ⟨0, Nat.zero_le _, rfl, by simp [sumBy], MSh.refl _ _ _⟩
 case round =>
  obtain ⟨j, hj, rfl, rfl, hS⟩ := hrel
  by_cases hlt : j < fs.length
  ·have HP0 : Hid (FuncsM B T wr (.slice (some ⟨g, 0, none⟩) fs.length fs.length) fs) := HP.out.sh hS
   have HST : Hid _ := sumBy_step cntF fs j hlt
   have hle := sumBy_le cntF fs (j + 1)
   have hsm := HSM.out fs[j] (List.getElem_mem hlt)
   have hcs : cntF fs[j] = 1 + fs[j].params.length + sumBy cntS fs[j].body := rfl
   have hqb : ((k + sumBy cntF (fs.take j) : Nat) : Int) + 1 + fs[j].params.length + (sumBy cntS fs[j].body : Nat) ≤ 1000000000 := by
    have h1 := HST.out
    have h2 := HK.out
    omega
   have hq0 : 0 < k + sumBy cntF (fs.take j) := by omega
   have HC : Hid (cntF fs[j] = 1 + fs[j].params.length + sumBy cntS fs[j].body) := hcs
   have hse := hsm.1
   have hsf := hsm.2.1
   have HSF : Hid (∀ s ∈ fs[j].body, smallS s) := hsm.2.2
   clear hle hcs hsm
   generalize hq : k + sumBy cntF (fs.take j) = q at hqb hq0 ⊢
   have HQ : Hid (k + sumBy cntF (fs.take j) = q) := hq
   generalize hne : fs[j].params.length = ne at hse hqb HC
   have HNE : Hid (fs[j].params.length = ne) := hne
   have HSH : Hid (MSh B T w wr) := hS
   have HBD : Hid (∀ (W : World) (v : Value), StmtsM B T W v fs[j].body → StmtsM B T W v fs[j].body) := fun _ _ h => h
   clear hq hne
   go_wp2_with fail
   refine (mtext_any q (by omega) (by omega) _).mono ?_
   rintro e w1 ⟨rfl, hb1⟩
   have HP2 : Hid (FuncsM B T w1 (.slice (some ⟨g, 0, none⟩) fs.length fs.length) fs) := HP0.out.sh (MSh.of_below hb1)
   have HS2 : Hid (MSh B T w w1) := HSH.out.trans (MSh.of_below hb1)
   obtain ⟨vp, vb, c1, c2, pp, pb, ⟨y0, o0⟩, f0, s0⟩ := HP2.out.at j hlt
   have HP3 : Hid (FuncsM B T (w1.setCell ⟨g, j * 3, none⟩ (.string (mtxt q))) (.slice (some ⟨g, 0, none⟩) fs.length fs.length) fs) := HP2.out.sh (s0 _ (plain_str _))
   have HS3 : Hid (MSh B T w (w1.setCell ⟨g, j * 3, none⟩ (.string (mtxt q)))) := HS2.out.trans (s0 _ (plain_str _))
   have HPE : Hid (PlainM B T 9 1 (w1.setCell ⟨g, j * 3, none⟩ (.string (mtxt q))) vp ne) := by rw [← HNE.out]; exact pp.sh (s0 _ (plain_str _))
   obtain ⟨ae, lne, cne, rfl⟩ := pp.isSlice
   obtain ⟨af, lnf, cnf, rfl⟩ := pb.isSlice
   clear s0 pp pb hb1
   go_wp2_with fail
   rw [show ((q : Int) + 1) = ((q + 1 : Nat) : Int) by omega]
   refine (markStrs_any B T _ ne (q + 1) _ hse (by omega) (by omega) HPE.out).mono ?_
   rintro e w2 ⟨rfl, sh2⟩
   generalize hq2 : q + 1 + 1 * ne = q2
   have hq2b : (q2 : Int) + (sumBy cntS fs[j].body : Nat) ≤ 1000000000 := by omega
   have hq20 : 0 < q2 := by omega
   have HQ2 : Hid (q + 1 + 1 * ne = q2) := hq2
   clear hq2
   have HP4 : Hid (FuncsM B T w2 (.slice (some ⟨g, 0, none⟩) fs.length fs.length) fs) := HP3.out.sh sh2
   have HS4 : Hid (MSh B T w w2) := HS3.out.trans sh2
   obtain ⟨vp', vb', -, d2, -, pb', -⟩ := HP4.out.at j hlt
   have HPB : Hid (StmtsM B T w2 vb' fs[j].body) := pb'
   obtain ⟨af', lnf', cnf', rfl⟩ := pb'.isSlice
   clear c1 c2 o0 f0 HP3 HS3 sh2 pb'
   go_wp2_with fail
   refine (markStmts_any B T _ fs[j].body q2 _ hsf HSF.out hq20 hq2b HPB.out).mono ?_
   rintro e w3 ⟨rfl, sh3⟩
   have HS5 : Hid (MSh B T w w3) := HS4.out.trans sh3
   generalize hr : q2 + sumBy cntS fs[j].body = r
   have HRR : Hid (q2 + sumBy cntS fs[j].body = r) := hr
   clear hr d2 sh3 hq2b hqb
   go_wp2_with fail
   go_roundw
   case rel =>
    refine ⟨j + 1, by omega, by go_num, ?_, HS5.out⟩
    have h1 := HST.out
    have h2 := HC.out
    have h3 := HQ.out
    have h4 := HRR.out
    have h5 := HQ2.out
    rw [show k + sumBy cntF (fs.take (j + 1)) = r by omega]
   case measure => simp [RowKit.intOf]; omega
  ·have hjn : fs.take j = fs := List.take_of_length_le (by omega)
   go_wp2_with fail
   go_ret
   exact ⟨ret_int' (by rw [hjn]), hS⟩
theorem box2_sh {B T : Nat} {w w' : World} {t : TypeId} {x y : Value} (h : MSh B T (w.alloc (.cells #[x, y] t)) w') (hT : T ≤ w.heap.size) : w'.cell? ⟨w.heap.size, 0, none⟩ = some x ∧ w'.cell? ⟨w.heap.size, 1, none⟩ = some y := by
 have hk := h.keep w.heap.size hT (by simp)
 exact ⟨by rw [World.cell?_of_block (w := w.alloc (.cells #[x, y] t)) hk]; simp, by rw [World.cell?_of_block (w := w.alloc (.cells #[x, y] t)) hk]; simp⟩
set_option maxHeartbeats 1000000 in
theorem markTree_any (B T : Nat) (vg vf : Value) (t : Tr) (k : Nat) (w : World) (hT : T ≤ w.heap.size) (hs : smallT t) (h0 : 0 < k) (hk : (k : Int) + (cntT t : Nat) ≤ 1000000000) (hg : PlainM B T 74 2 w vg t.globals.length) (hf : FuncsM B T w vf t.funcs) :
  Calls Tryz.prog 27 #[.agg #[vg, vf], .int .i64 k] w fun e w' => e = .returned (.int .i64 ((k + cntT t : Nat) : Int)) ∧ MSh B T w w' := by
 obtain ⟨gs, fs⟩ := t
 have hgl : gs.length ≤ 1048576 := hs.1
 have hfl : fs.length ≤ 1048576 := hs.2.1
 have HSF : Hid (∀ f ∈ fs, smallF f) := hs.2.2
 have HC : Hid (cntT ⟨gs, fs⟩ = 2 * gs.length + sumBy cntF fs) := rfl
 have hkb : (k : Int) + 2 * gs.length + (sumBy cntF fs : Nat) ≤ 1000000000 := by have := HC.out; omega
 simp only at hg hf
 have HG : Hid (PlainM B T 74 2 w vg gs.length) := hg
 have HF : Hid (FuncsM B T w vf fs) := hf
 obtain ⟨ag, lg, cg, rfl⟩ := hg.isSlice
 obtain ⟨gf, cur, rfl, -, -, -, -, -⟩ := hf
 clear hg hs hk
 have hA : Below w.heap.size w (w.alloc (.cells #[.slice ag lg cg, .slice (some ⟨gf, 0, none⟩) fs.length fs.length] 26)) := (Below.refl _ _).alloc (Nat.le_refl _) _
 have HT0 : Hid (PlainM B T 74 2 (w.alloc (.cells #[.slice ag lg cg, .slice (some ⟨gf, 0, none⟩) fs.length fs.length] 26)) (.slice ag lg cg) gs.length) := PlainM.sh HG.out (MSh.of_below hA)
 go_enter Tryz.func27, Tryz.ntmps27
 go_wp2_with fail
 refine (markGlobs_any B T _ gs.length k _ hgl h0 (by omega) HT0.out).mono ?_
 rintro e w1 ⟨rfl, sh1⟩
 obtain ⟨x0, x1⟩ := box2_sh sh1 hT
 have HSH : Hid (MSh B T w w1) := (MSh.of_below hA).trans sh1
 have HF1 : Hid (FuncsM B T w1 (.slice (some ⟨gf, 0, none⟩) fs.length fs.length) fs) := HF.out.sh HSH.out
 generalize hq : k + 2 * gs.length = q
 have hqb : (q : Int) + (sumBy cntF fs : Nat) ≤ 1000000000 := by omega
 have hq0 : 0 < q := by omega
 have HQ : Hid (k + 2 * gs.length = q) := hq
 clear hq hkb sh1 hA
 go_wp2_with fail
 refine (markFuncs_any B T _ fs q _ hfl HSF.out hq0 hqb HF1.out).mono ?_
 rintro e w2 ⟨rfl, sh2⟩
 have HS2 : Hid (MSh B T w w2) := HSH.out.trans sh2
 generalize hr : q + sumBy cntF fs = r
 have HR : Hid (q + sumBy cntF fs = r) := hr
 clear hr sh2 x0 x1 hqb
 go_wp2_with fail
 go_ret
 exact ⟨ret_int' (by have := HC.out; have := HQ.out; have := HR.out; omega), HS2.out⟩
theorem NodesO.plain {B : Nat} {w : World} {v : Value} {ns : List Nd} (h : NodesO B w v ns) : PlainM B w.heap.size 48 3 w v ns.length := by
 obtain ⟨g, xs, rfl, ho, hx⟩ := h
 have hlt := own_lt ho
 rcases ho.2 with ⟨h', _⟩ | ⟨g', cap', cur, h', hB, hg, hnc, hcm, hcs, htake⟩
 ·simp at h'
 ·simp only [Value.slice.injEq, Option.some.injEq, Addr.mk.injEq, and_true, true_and] at h'
  obtain ⟨rfl, rfl⟩ := h'
  refine ⟨g, cur, rfl, hB, hlt.2, hg, hcs, fun i v hv a n c e => ?_⟩
  subst e
  have hi : i < ns.length * 3 := by have := (Array.getElem?_eq_some_iff.1 hv).1; omega
  have e1 : xs[i]? = some (.slice a n c) := by rw [← htake, List.getElem?_take, if_pos hi]; simpa using hv
  have e2 := hx (i / 3) (by omega) (i % 3) (Nat.mod_lt _ (by omega))
  rw [show i / 3 * 3 + i % 3 = i by omega, e1] at e2
  have h3 : i % 3 = 0 ∨ i % 3 = 1 ∨ i % 3 = 2 := by omega
  rcases h3 with h | h | h <;> rw [h] at e2 <;> simp [encN] at e2
theorem StrsO.plain {B : Nat} {w : World} {v : Value} {ns : List ByteArray} (h : StrsO B w v ns) : PlainM B w.heap.size 9 1 w v ns.length := by
 obtain ⟨g, xs, rfl, ho, hx⟩ := h
 have hlt := own_lt ho
 rcases ho.2 with ⟨h', _⟩ | ⟨g', cap', cur, h', hB, hg, hnc, hcm, hcs, htake⟩
 ·simp at h'
 ·simp only [Value.slice.injEq, Option.some.injEq, Addr.mk.injEq, and_true, true_and] at h'
  obtain ⟨rfl, rfl⟩ := h'
  refine ⟨g, cur, rfl, hB, hlt.2, hg, hcs, fun i v hv a n c e => ?_⟩
  subst e
  have hi : i < ns.length * 1 := by have := (Array.getElem?_eq_some_iff.1 hv).1; omega
  have e1 : xs[i]? = some (.slice a n c) := by rw [← htake, List.getElem?_take, if_pos hi]; simpa using hv
  have e2 := hx i (by omega) 0 (by omega)
  rw [show i * 1 + 0 = i by omega, e1] at e2
  simp [encP] at e2
theorem GlobsO.plain {B : Nat} {w : World} {v : Value} {ns : List Gl} (h : GlobsO B w v ns) : PlainM B w.heap.size 74 2 w v ns.length := by
 obtain ⟨g, xs, rfl, ho, hx⟩ := h
 have hlt := own_lt ho
 rcases ho.2 with ⟨h', _⟩ | ⟨g', cap', cur, h', hB, hg, hnc, hcm, hcs, htake⟩
 ·simp at h'
 ·simp only [Value.slice.injEq, Option.some.injEq, Addr.mk.injEq, and_true, true_and] at h'
  obtain ⟨rfl, rfl⟩ := h'
  refine ⟨g, cur, rfl, hB, hlt.2, hg, hcs, fun i v hv a n c e => ?_⟩
  subst e
  have hi : i < ns.length * 2 := by have := (Array.getElem?_eq_some_iff.1 hv).1; omega
  have e1 : xs[i]? = some (.slice a n c) := by rw [← htake, List.getElem?_take, if_pos hi]; simpa using hv
  have e2 := hx (i / 2) (by omega) (i % 2) (Nat.mod_lt _ (by omega))
  rw [show i / 2 * 2 + i % 2 = i by omega, e1] at e2
  have h3 : i % 2 = 0 ∨ i % 2 = 1 := by omega
  rcases h3 with h | h <;> rw [h] at e2 <;> simp [encG] at e2
theorem StmtsO.marks {B : Nat} {w : World} {v : Value} {ns : List St} (h : StmtsO B w v ns) : StmtsM B w.heap.size w v ns := by
 obtain ⟨g, xs, V, rfl, ho, hx, hn⟩ := h
 have hlt := own_lt ho
 rcases ho.2 with ⟨h', _⟩ | ⟨g', cap', cur, h', hB, hg, hnc, hcm, hcs, htake⟩
 ·simp at h'
 ·simp only [Value.slice.injEq, Option.some.injEq, Addr.mk.injEq, and_true, true_and] at h'
  obtain ⟨rfl, rfl⟩ := h'
  have key : ∀ j (h : j < ns.length) i, i < 6 → cur[j * 6 + i]? = (encS ns[j] (V j))[i]? := fun j hj i hi => by
   have e2 := hx j hj i hi
   rw [← htake, List.getElem?_take, if_pos (by omega)] at e2
   simp only [List.getD, hj, List.getElem?_eq_getElem, Option.getD_some] at e2
   simpa using e2
  refine ⟨g, cur, rfl, hB, hlt.2, hg, hcs, fun j hj => ⟨⟨(V j).1, (V j).2, key j hj 2 (by omega), key j hj 3 (by omega), (hn j hj).1.plain, (hn j hj).2.plain⟩, fun i hi v hv a n c e => ?_⟩⟩
  subst e
  rcases hi with rfl | rfl | rfl | rfl
  all_goals (rw [key j hj _ (by omega)] at hv; simp [encS] at hv)
theorem FuncsO.marks {B : Nat} {w : World} {v : Value} {ns : List Fu} (h : FuncsO B w v ns) : FuncsM B w.heap.size w v ns := by
 obtain ⟨g, xs, V, rfl, ho, hx, hn⟩ := h
 have hlt := own_lt ho
 rcases ho.2 with ⟨h', _⟩ | ⟨g', cap', cur, h', hB, hg, hnc, hcm, hcs, htake⟩
 ·simp at h'
 ·simp only [Value.slice.injEq, Option.some.injEq, Addr.mk.injEq, and_true, true_and] at h'
  obtain ⟨rfl, rfl⟩ := h'
  have key : ∀ j (h : j < ns.length) i, i < 3 → cur[j * 3 + i]? = (encF ns[j] (V j))[i]? := fun j hj i hi => by
   have e2 := hx j hj i hi
   rw [← htake, List.getElem?_take, if_pos (by omega)] at e2
   simp only [List.getD, hj, List.getElem?_eq_getElem, Option.getD_some] at e2
   simpa using e2
  refine ⟨g, cur, rfl, hB, hlt.2, hg, hcs, fun j hj => ⟨⟨(V j).1, (V j).2, key j hj 1 (by omega), key j hj 2 (by omega), (hn j hj).1.plain, (hn j hj).2.marks⟩, fun v hv a n c e => ?_⟩⟩
  subst e
  have := key j hj 0 (by omega)
  rw [Nat.add_zero] at this
  rw [this] at hv
  simp [encF] at hv
end
end Go.Proofs.YtlamjfhhefcohaaGreatDoor
