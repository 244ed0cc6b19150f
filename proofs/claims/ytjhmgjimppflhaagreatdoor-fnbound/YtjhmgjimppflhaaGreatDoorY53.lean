import Derived.Test.YtjhmgjimppflhaaGreatDoorY51
import Derived.Test.YtjhmgjimppflhaaGreatDoorY07
set_option linter.unusedSectionVars false
variable [Inhabited Go.Proofs.YtjhmgjimppflhaaGreatDoor.Pick]
namespace Go.Proofs.YtjhmgjimppflhaaGreatDoor
set_option linter.unusedVariables false
set_option linter.unusedSimpArgs false
set_option maxRecDepth 100000
set_option maxHeartbeats 16000000
section
open Go.RowKit
theorem puts_get (x : Act) : ∀ (ds : List Tmp) (a : Act) (t : Tmp), a.tmps.size = x.tmps.size → (∀ t ∈ ds, t < x.tmps.size) → (ds.foldl (fun a t => a.put (some t) (x.eval (.tmp t))) a).tmps[t]? = if t ∈ ds then x.tmps[t]? else a.tmps[t]?
 | [], a, t, _, _ => by simp
 | d :: ds, a, t, hs, hin => by
  have hd : d < x.tmps.size := hin d (by simp)
  rw [List.foldl_cons, puts_get x ds _ t (by simp [Act.put]; exact hs) (fun t ht => hin t (by simp [ht]))]
  by_cases h1 : t ∈ ds
  ·rw [if_pos h1, if_pos (by simp [h1])]
  ·rw [if_neg h1]
   by_cases h2 : t = d
   ·subst h2
    rw [if_pos (by simp)]
    have : t < a.tmps.size := by rw [hs]; exact hd
    simp [Act.put, Act.eval, this, hd]
   ·rw [if_neg (by simp [h1, h2])]
    simp [Act.put, Array.getElem?_setIfInBounds_ne (fun e => h2 e.symm)]
theorem puts_defers (x : Act) : ∀ (ds : List Tmp) (a : Act), (ds.foldl (fun a t => a.put (some t) (x.eval (.tmp t))) a).defers = a.defers
 | [], a => rfl
 | d :: ds, a => by rw [List.foldl_cons, puts_defers x ds]; rfl
theorem act_puts {a0 x : Act} (ds : List Tmp) (hd : x.defers = a0.defers) (hs : x.tmps.size = a0.tmps.size) (hin : ∀ t ∈ ds, t < a0.tmps.size) (hfr : ∀ t, t ∉ ds → x.tmps[t]? = a0.tmps[t]?) : x = ds.foldl (fun a t => a.put (some t) (x.eval (.tmp t))) a0 := by
 have h1 : (ds.foldl (fun a t => a.put (some t) (x.eval (.tmp t))) a0).tmps = x.tmps := by
  apply Array.ext_getElem?
  intro t
  rw [puts_get x ds a0 t hs.symm (fun t ht => by rw [hs]; exact hin t ht)]
  by_cases h : t ∈ ds
  ·rw [if_pos h]
  ·rw [if_neg h, hfr t h]
 have h2 := puts_defers x ds a0
 obtain ⟨xt, xd⟩ := x
 generalize ds.foldl (fun a t => a.put (some t) ((⟨xt, xd⟩ : Act).eval (.tmp t))) a0 = y at h1 h2 ⊢
 obtain ⟨yt, yd⟩ := y
 simp only at h1 h2 hd
 rw [h1, h2, hd]
theorem lt10 {i : Nat} (h : i < 10) : i = 0 ∨ i = 1 ∨ i = 2 ∨ i = 3 ∨ i = 4 ∨ i = 5 ∨ i = 6 ∨ i = 7 ∨ i = 8 ∨ i = 9 := by omega
end
section
open Go.RowKit
theorem QP.below {g M : Nat} {a : Option Addr} {len cap O R4 N fl gl : Nat} {w W W' : World} {b c b' c' : Nat} {gs : List Gl} {Q : List FV} {bb bn bc : Nat} {R : List SV} (h : QP g M a len cap O R4 N fl gl w W b c b' c' gs Q bb bn bc R) (hb : Below W.heap.size W W') : QP g M a len cap O R4 N fl gl w W' b c b' c' gs Q bb bn bc R :=
 ⟨h.pp.below hb, h.br.below hb, h.rl, h.es, h.bne⟩
theorem QP.alloc {g M : Nat} {a : Option Addr} {len cap O R4 N fl gl : Nat} {w W : World} {b c b' c' : Nat} {gs : List Gl} {Q : List FV} {bb bn bc : Nat} {R : List SV} (h : QP g M a len cap O R4 N fl gl w W b c b' c' gs Q bb bn bc R) (o : Obj) : QP g M a len cap O R4 N fl gl w (W.alloc o) b c b' c' gs Q bb bn bc R :=
 h.below ((Below.refl _ _).alloc (Nat.le_refl _) o)
theorem PP.cp {g M : Nat} {a : Option Addr} {len cap O R4 N fl gl : Nat} {w W : World} {b c b' c' : Nat} {gs : List Gl} {Q : List FV} {vb : Value} {R : List SV} (h : PP g M a len cap O R4 N fl gl w W b c b' c' gs Q) (hbr : BR (fun k => k < M ∨ k = R4 ∨ k = b') N W vb R) (hl : R.length ≤ 20000) (hne : ∀ k, vb.ownBlock = some k → k ≠ b') : CP g M a len cap O R4 N fl w W vb (.slice (some ⟨b, 0, none⟩) gl c) b' c' gs Q R := by
 obtain ⟨l0, l1, l2, l3, l4⟩ := h.lo
 obtain ⟨q1, q2, q3, q4, q5, q6⟩ := h.ln
 obtain ⟨e1, e2, e3⟩ := h.ne
 obtain ⟨⟨s1, s2⟩, s3, s4⟩ := h.rng
 refine ⟨h.box, h.res, h.gr, h.fr.less (fun k hk => by rcases hk with e | e; exact .inl e; exact .inr (by omega)), hbr, ⟨q1, q3, by omega, hl⟩, h.gn, h.cur, h.tcs, ⟨e2, by omega, fun k hk => ?_, hne⟩, ⟨l0, l1, l2, by omega⟩⟩
 simp only [Value.ownBlock, Option.some.injEq] at hk
 omega
theorem QP.less {g M : Nat} {a : Option Addr} {len cap O R4 N fl gl : Nat} {w W : World} {b c b' c' : Nat} {gs : List Gl} {Q : List FV} {bb bn bc : Nat} {R : List SV} (h : QP g M a len cap O R4 N fl gl w W b c b' c' gs Q bb bn bc R) : BR (fun k => k < M ∨ k = R4 ∨ k = b') N W (.slice (some ⟨bb, 0, none⟩) bn bc) R := by
 obtain ⟨l0, l1, l2, l3, l4⟩ := h.pp.lo
 obtain ⟨⟨s1, s2⟩, s3, s4⟩ := h.pp.rng
 exact ⟨h.br.row.less (fun k hk => by rcases hk with e | e | e; exact .inl e; exact .inr (by omega); exact .inr (by omega)), h.br.ok⟩
theorem QP.put {g M : Nat} {a : Option Addr} {len cap O R4 N fl gl : Nat} {w W : World} {b c b' c' : Nat} {gs : List Gl} {Q : List FV} {bb bn bc : Nat} {R : List SV} (h : QP g M a len cap O R4 N fl gl w W b c b' c' gs Q bb bn bc R) (hL : Lo g a len (S0 g) w.heap.size) (i : Nat) (hi : i < bn) (cc : Nat) (hc : cc < 6) :
  ∃ x, W.cell? ⟨bb, i * 6 + cc, none⟩ = (cellsS x)[cc]? ∧ W.frozen? ⟨bb, i * 6 + cc, none⟩ = false ∧ (okN x.s.e 5000 ∧ okN x.s.f 5000 ∧ x.s.name.size ≤ 100000) ∧ x.s.e.length ≤ 3000 ∧ (∀ W', Tcs (fun k => k < M ∨ w.heap.size ≤ k) W W' → Nodes W' x.ve x.s.e ∧ Nodes W' x.vf x.s.f) ∧
   ∀ (u : Value) (x' : SV), cellsS x' = (cellsS x).set cc u → (∀ W', Tcs (fun k => (k < M ∨ k = R4 ∨ k = b') ∨ k = bb) W W' → Nodes W' x'.ve x'.s.e ∧ Nodes W' x'.vf x'.s.f) → (okN x'.s.e 5000 ∧ okN x'.s.f 5000 ∧ x'.s.name.size ≤ 100000) → ∃ R', CP g M a len cap O R4 N fl w (W.setCell ⟨bb, i * 6 + cc, none⟩ u) (.slice (some ⟨bb, 0, none⟩) bn bc) (.slice (some ⟨b, 0, none⟩) gl c) b' c' gs Q R' := by
 obtain ⟨l0, l1, l2, l3, l4⟩ := h.pp.lo
 obtain ⟨r1, r2, r3⟩ := h.rl
 obtain ⟨b1, b2, b3⟩ := h.bne
 have hiR : i < R.length := by omega
 have hbb := h.br.rng bb rfl
 have hrow : W.ownsRow N 88 6 (.slice (some ⟨bb, 0, none⟩) bn bc) R.length (flatS R) := h.br.row.row
 have hrow' : W.ownsRow N 88 6 (.slice (some ⟨bb, 0, none⟩) bn bc) bn (flatS R) := by have h0 := hrow; rw [r1] at h0; exact h0
 have hfl := flatS_len R
 refine ⟨R[i], ?_, World.ownsRow.frozenAt hrow' _, h.br.ok _ (List.getElem_mem hiR), h.es _ (List.getElem_mem hiR), fun W' hW' => h.br.row.st W' (hW'.mono fun k hk => .inl hk) _ (List.getElem_mem hiR), fun u x' hx hp ho => ?_⟩
 ·rw [World.ownsRow.cellAt hrow' (i * 6 + cc) (by omega), flatS_get R i cc hiR hc]
 ·have hbr := h.less.put i cc u x' hiR hc hx hp ho
  have t1 : Tcs (fun k => k = bb) W (W.setCell ⟨bb, i * 6 + cc, none⟩ u) := (Tcs.refl (fun k => k = bb) W).setCell (p := ⟨bb, i * 6 + cc, none⟩) rfl _
  have hpp := h.pp.past t1 (h.pp.cur.new hL t1 (fun k hk => by omega)) (fun k hk => by have e : k = bb := hk; exact ⟨.inr (by omega), by omega, by omega, by omega, by omega⟩)
  exact ⟨_, hpp.cp hbr (by rw [List.length_set]; omega) (fun k hk => by simp only [Value.ownBlock, Option.some.injEq] at hk; omega)⟩
theorem QP.kind {g M : Nat} {a : Option Addr} {len cap O R4 N fl gl : Nat} {w W : World} {b c b' c' : Nat} {gs : List Gl} {Q : List FV} {bb bn bc : Nat} {R : List SV} (h : QP g M a len cap O R4 N fl gl w W b c b' c' gs Q bb bn bc R) (hL : Lo g a len (S0 g) w.heap.size) (i : Nat) (hi : i < bn) :
  (∃ k0 : Int, W.cell? ⟨bb, i * 6, none⟩ = some (.int .i64 k0)) ∧ W.frozen? ⟨bb, i * 6, none⟩ = false ∧ ∀ n : Int, ∃ R', CP g M a len cap O R4 N fl w (W.setCell ⟨bb, i * 6, none⟩ (.int .i64 n)) (.slice (some ⟨bb, 0, none⟩) bn bc) (.slice (some ⟨b, 0, none⟩) gl c) b' c' gs Q R' := by
 obtain ⟨x, hx, hz, ho, hl, hp, hs⟩ := h.put hL i hi 0 (by omega)
 obtain ⟨l0, l1, l2, l3, l4⟩ := h.pp.lo
 have hb' := h.pp.rng
 have hbb := h.br.rng bb rfl
 refine ⟨⟨_, hx⟩, hz, fun n => hs _ ⟨⟨n, x.s.name, x.s.e, x.s.f, x.s.thn, x.s.els⟩, x.ve, x.vf, [], []⟩ rfl (fun W' hW' => hp W' (hW'.mono fun k hk => ?_)) ho⟩
 rcases hk with (e | e | e) | e
 ·exact .inl e
 all_goals exact .inr (by omega)
theorem QP.nm {g M : Nat} {a : Option Addr} {len cap O R4 N fl gl : Nat} {w W : World} {b c b' c' : Nat} {gs : List Gl} {Q : List FV} {bb bn bc : Nat} {R : List SV} (h : QP g M a len cap O R4 N fl gl w W b c b' c' gs Q bb bn bc R) (hL : Lo g a len (S0 g) w.heap.size) (i : Nat) (hi : i < bn) :
  (∃ k0, W.cell? ⟨bb, i * 6 + 1, none⟩ = some (.string k0)) ∧ W.frozen? ⟨bb, i * 6 + 1, none⟩ = false ∧ ∀ n : ByteArray, n.size ≤ 100000 → ∃ R', CP g M a len cap O R4 N fl w (W.setCell ⟨bb, i * 6 + 1, none⟩ (.string n)) (.slice (some ⟨bb, 0, none⟩) bn bc) (.slice (some ⟨b, 0, none⟩) gl c) b' c' gs Q R' := by
 obtain ⟨x, hx, hz, ho, hl, hp, hs⟩ := h.put hL i hi 1 (by omega)
 obtain ⟨l0, l1, l2, l3, l4⟩ := h.pp.lo
 have hb' := h.pp.rng
 have hbb := h.br.rng bb rfl
 refine ⟨⟨_, hx⟩, hz, fun n hn => hs _ ⟨⟨x.s.kind, n, x.s.e, x.s.f, x.s.thn, x.s.els⟩, x.ve, x.vf, [], []⟩ rfl (fun W' hW' => hp W' (hW'.mono fun k hk => ?_)) ⟨ho.1, ho.2.1, hn⟩⟩
 rcases hk with (e | e | e) | e
 ·exact .inl e
 all_goals exact .inr (by omega)
theorem QP.thn {g M : Nat} {a : Option Addr} {len cap O R4 N fl gl : Nat} {w W : World} {b c b' c' : Nat} {gs : List Gl} {Q : List FV} {bb bn bc : Nat} {R : List SV} (h : QP g M a len cap O R4 N fl gl w W b c b' c' gs Q bb bn bc R) (hL : Lo g a len (S0 g) w.heap.size) (i : Nat) (hi : i < bn) :
  (∃ k0 : Int, W.cell? ⟨bb, i * 6 + 4, none⟩ = some (.int .i64 k0)) ∧ W.frozen? ⟨bb, i * 6 + 4, none⟩ = false ∧ ∀ n : Int, ∃ R', CP g M a len cap O R4 N fl w (W.setCell ⟨bb, i * 6 + 4, none⟩ (.int .i64 n)) (.slice (some ⟨bb, 0, none⟩) bn bc) (.slice (some ⟨b, 0, none⟩) gl c) b' c' gs Q R' := by
 obtain ⟨x, hx, hz, ho, hl, hp, hs⟩ := h.put hL i hi 4 (by omega)
 obtain ⟨l0, l1, l2, l3, l4⟩ := h.pp.lo
 have hb' := h.pp.rng
 have hbb := h.br.rng bb rfl
 refine ⟨⟨_, hx⟩, hz, fun n => hs _ ⟨⟨x.s.kind, x.s.name, x.s.e, x.s.f, n, x.s.els⟩, x.ve, x.vf, [], []⟩ rfl (fun W' hW' => hp W' (hW'.mono fun k hk => ?_)) ho⟩
 rcases hk with (e | e | e) | e
 ·exact .inl e
 all_goals exact .inr (by omega)
theorem QP.ex {g M : Nat} {a : Option Addr} {len cap O R4 N fl gl : Nat} {w W : World} {b c b' c' : Nat} {gs : List Gl} {Q : List FV} {bb bn bc : Nat} {R : List SV} (h : QP g M a len cap O R4 N fl gl w W b c b' c' gs Q bb bn bc R) (hL : Lo g a len (S0 g) w.heap.size) (i : Nat) (hi : i < bn) :
  (∃ va vn vc es, W.cell? ⟨bb, i * 6 + 2, none⟩ = some (.slice va vn vc) ∧ okN es 3000 ∧ ∀ W', Tcs (fun k => k < M ∨ w.heap.size ≤ k) W W' → Nodes W' (.slice va vn vc) es) ∧ W.frozen? ⟨bb, i * 6 + 2, none⟩ = false ∧ ∀ (ve : Value) (B : Nat) (e : List Nd), NRow B W ve e → (bb < B ∧ O < B ∧ b' < B) → okN e 5000 → ∃ R', CP g M a len cap O R4 N fl w (W.setCell ⟨bb, i * 6 + 2, none⟩ ve) (.slice (some ⟨bb, 0, none⟩) bn bc) (.slice (some ⟨b, 0, none⟩) gl c) b' c' gs Q R' := by
 obtain ⟨x, hx, hz, ho, hl, hp, hs⟩ := h.put hL i hi 2 (by omega)
 obtain ⟨l0, l1, l2, l3, l4⟩ := h.pp.lo
 have hb' := h.pp.rng
 have hbb := h.br.rng bb rfl
 refine ⟨?_, hz, fun ve B e hr hB hn => hs _ ⟨⟨x.s.kind, x.s.name, e, x.s.f, x.s.thn, x.s.els⟩, ve, x.vf, [], []⟩ rfl (fun W' hW' => ⟨nrow_fz hr (fun k hk => ?_) W' hW', (hp W' (hW'.mono fun k hk => ?_)).2⟩) ⟨hn, ho.2.1, ho.2.2⟩⟩
 ·have h1 := fun W' hW' => (hp W' hW').1
  obtain ⟨va, vc, ev, -⟩ := (h1 W (Tcs.refl _ _))
  have hx' : W.cell? ⟨bb, i * 6 + 2, none⟩ = some x.ve := hx
  rw [ev] at hx'
  refine ⟨va, _, vc, x.s.e, hx', ⟨hl, ho.1.2⟩, fun W' hW' => ?_⟩
  have := h1 W' hW'
  rw [ev] at this
  exact this
 ·rcases hk with (e | e | e) | e <;> omega
 ·rcases hk with (e | e | e) | e
  ·exact .inl e
  all_goals exact .inr (by omega)
theorem QP.fput {g M : Nat} {a : Option Addr} {len cap O R4 N fl gl : Nat} {w W : World} {b c b' c' : Nat} {gs : List Gl} {Q : List FV} {bb bn bc : Nat} {R : List SV} (h : QP g M a len cap O R4 N fl gl w W b c b' c' gs Q bb bn bc R) (hL : Lo g a len (S0 g) w.heap.size) (f : Nat) (hf : f < fl) (cc : Nat) (hc : cc < 3) :
  ∃ x, W.cell? ⟨b', f * 3 + cc, none⟩ = (cellsF x)[cc]? ∧ W.frozen? ⟨b', f * 3 + cc, none⟩ = false ∧ okF2 x.f ∧ x.f.params.length ≤ 20 ∧ (∀ W', Tcs (fun k => k < M ∨ w.heap.size ≤ k) W W' → Strs W' x.vp x.f.params ∧ RdS W' x.vb x.R ∧ x.R.map (·.s) = x.f.body) ∧
   ∀ (u : Value) (x' : FV), cellsF x' = (cellsF x).set cc u → (∀ W', Tcs (fun k => (k < M ∨ k = R4) ∨ k = b') W W' → Strs W' x'.vp x'.f.params ∧ RdS W' x'.vb x'.R ∧ x'.R.map (·.s) = x'.f.body) → okF2 x'.f → ∃ Q', CP g M a len cap O R4 N fl w (W.setCell ⟨b', f * 3 + cc, none⟩ u) (.slice (some ⟨bb, 0, none⟩) bn bc) (.slice (some ⟨b, 0, none⟩) gl c) b' c' gs Q' R := by
 obtain ⟨l0, l1, l2, l3, l4⟩ := h.pp.lo
 obtain ⟨q1, q2, q3, q4, q5, q6⟩ := h.pp.ln
 obtain ⟨r1, r2, r3⟩ := h.rl
 obtain ⟨b1, b2, b3⟩ := h.bne
 obtain ⟨e1, e2, e3⟩ := h.pp.ne
 obtain ⟨⟨s1, s2⟩, s3, s4⟩ := h.pp.rng
 have hfQ : f < Q.length := by omega
 have hbb := h.br.rng bb rfl
 have hfr := h.pp.fr
 have hrow : W.ownsRow N 61 3 (.slice (some ⟨b', 0, none⟩) fl c') Q.length (flatF Q) := hfr.row.row
 have hrow' : W.ownsRow N 61 3 (.slice (some ⟨b', 0, none⟩) fl c') fl (flatF Q) := by have h0 := hrow; rw [q1] at h0; exact h0
 have hfl := flatF_len Q
 refine ⟨Q[f], ?_, World.ownsRow.frozenAt hrow' _, hfr.ok _ (List.getElem_mem hfQ), (h.pp.ob _ (List.getElem_mem hfQ)).2.2.1, fun W' hW' => hfr.row.st W' (hW'.mono fun k hk => .inl hk) _ (List.getElem_mem hfQ), fun u x' hx hp ho => ?_⟩
 ·rw [World.ownsRow.cellAt hrow' (f * 3 + cc) (by omega), flatF_get Q f cc hfQ hc]
 ·have hless : F2 (fun k => k < M ∨ k = R4) N W (.slice (some ⟨b', 0, none⟩) fl c') Q := hfr.less (fun k hk => by rcases hk with e | e; exact .inl e; exact .inr (by omega))
  have hF1 := hless.put f cc u x' hfQ hc hx hp ho
  have t1 : Tcs (fun k => k = b') W (W.setCell ⟨b', f * 3 + cc, none⟩ u) := (Tcs.refl (fun k => k = b') W).setCell (p := ⟨b', f * 3 + cc, none⟩) rfl _
  have hbr : BR (fun k => k < M ∨ w.heap.size ≤ k) N (W.setCell ⟨b', f * 3 + cc, none⟩ u) (.slice (some ⟨bb, 0, none⟩) bn bc) R := ⟨h.br.row.past t1 (fun k hk => .inr (by omega)) (fun k hk e => by simp only [Value.ownBlock, Option.some.injEq] at hk; have e : k = b' := e; omega), h.br.ok⟩
  refine ⟨_, h.pp.box.tcs l4 t1 (fun e => e2 e), h.pp.res.tcs (by omega) t1 (fun e => by have e : R4 = b' := e; omega), own_not h.pp.gr t1 (fun k hk e => by simp only [Value.ownBlock, Option.some.injEq] at hk; have e : k = b' := e; omega), hF1, ⟨hbr.row.less (fun k hk => by rcases hk with e | e | e; exact .inl e; exact .inr (by omega); exact .inr (by omega)), hbr.ok⟩, ⟨by rw [List.length_set]; exact q1, q3, by omega, by omega⟩, h.pp.gn, h.pp.cur.new hL t1 (fun k hk => by omega), h.pp.tcs.next t1 (fun k hk => .inr (by omega)), ⟨e2, by omega, fun k hk => ?_, fun k hk => ?_⟩, ⟨l0, l1, l2, by omega⟩⟩
  ·simp only [Value.ownBlock, Option.some.injEq] at hk
   omega
  ·simp only [Value.ownBlock, Option.some.injEq] at hk
   omega
theorem QP.fnm {g M : Nat} {a : Option Addr} {len cap O R4 N fl gl : Nat} {w W : World} {b c b' c' : Nat} {gs : List Gl} {Q : List FV} {bb bn bc : Nat} {R : List SV} (h : QP g M a len cap O R4 N fl gl w W b c b' c' gs Q bb bn bc R) (hL : Lo g a len (S0 g) w.heap.size) (f : Nat) (hf : f < fl) :
  (∃ k0, W.cell? ⟨b', f * 3, none⟩ = some (.string k0)) ∧ W.frozen? ⟨b', f * 3, none⟩ = false ∧ ∀ n : ByteArray, n.size ≤ 100000 → ∃ Q', CP g M a len cap O R4 N fl w (W.setCell ⟨b', f * 3, none⟩ (.string n)) (.slice (some ⟨bb, 0, none⟩) bn bc) (.slice (some ⟨b, 0, none⟩) gl c) b' c' gs Q' R := by
 obtain ⟨x, hx, hz, ho, hl, hp, hs⟩ := h.fput hL f hf 0 (by omega)
 obtain ⟨l0, l1, l2, l3, l4⟩ := h.pp.lo
 have hb' := h.pp.rng
 refine ⟨⟨_, hx⟩, hz, fun n hn => hs _ ⟨⟨n, x.f.params, x.f.body⟩, x.vp, x.vb, x.R, [], []⟩ rfl (fun W' hW' => hp W' (hW'.mono fun k hk => ?_)) ⟨hn, ho.pl, ho.pn, ho.bu, ho.st⟩⟩
 rcases hk with (e | e) | e
 ·exact .inl e
 all_goals exact .inr (by omega)
theorem QP.fps {g M : Nat} {a : Option Addr} {len cap O R4 N fl gl : Nat} {w W : World} {b c b' c' : Nat} {gs : List Gl} {Q : List FV} {bb bn bc : Nat} {R : List SV} (h : QP g M a len cap O R4 N fl gl w W b c b' c' gs Q bb bn bc R) (hL : Lo g a len (S0 g) w.heap.size) (f : Nat) (hf : f < fl) :
  (∃ va vn vc ps, W.cell? ⟨b', f * 3 + 1, none⟩ = some (.slice va vn vc) ∧ (ps.length ≤ 20 ∧ ∀ p ∈ ps, p.size ≤ 100000) ∧ ∀ W', Tcs (fun k => k < M ∨ w.heap.size ≤ k) W W' → Strs W' (.slice va vn vc) ps) ∧ W.frozen? ⟨b', f * 3 + 1, none⟩ = false ∧ ∀ (vp : Value) (B : Nat) (ps : List ByteArray), W.ownsRow B 9 1 vp ps.length (ps.map Value.string) → (O < B ∧ b' < B) → (ps.length ≤ 30 ∧ ∀ p ∈ ps, p.size ≤ 100000) → ∃ Q', CP g M a len cap O R4 N fl w (W.setCell ⟨b', f * 3 + 1, none⟩ vp) (.slice (some ⟨bb, 0, none⟩) bn bc) (.slice (some ⟨b, 0, none⟩) gl c) b' c' gs Q' R := by
 obtain ⟨x, hx, hz, ho, hl, hp, hs⟩ := h.fput hL f hf 1 (by omega)
 obtain ⟨l0, l1, l2, l3, l4⟩ := h.pp.lo
 have hb' := h.pp.rng
 refine ⟨?_, hz, fun vp B ps hr hB hn => hs _ ⟨⟨x.f.name, ps, x.f.body⟩, vp, x.vb, x.R, [], []⟩ rfl (fun W' hW' => ⟨own_strs (own_tcs hr hW' (fun k hk => ?_)), (hp W' (hW'.mono fun k hk => ?_)).2⟩) ⟨ho.nm, hn.1, hn.2, ho.bu, ho.st⟩⟩
 ·have h1 := fun W' hW' => (hp W' hW').1
  obtain ⟨va, vc, ev, -⟩ := (h1 W (Tcs.refl _ _))
  have hx' : W.cell? ⟨b', f * 3 + 1, none⟩ = some x.vp := hx
  rw [ev] at hx'
  refine ⟨va, _, vc, x.f.params, hx', ⟨hl, ho.pn⟩, fun W' hW' => ?_⟩
  have := h1 W' hW'
  rw [ev] at this
  exact this
 ·rcases hk with (e | e) | e <;> omega
 ·rcases hk with (e | e) | e
  ·exact .inl e
  all_goals exact .inr (by omega)
end
section
open Go.RowKit
theorem QP.past {g M : Nat} {a : Option Addr} {len cap O R4 N fl gl : Nat} {w W W' : World} {b c b' c' : Nat} {gs : List Gl} {Q : List FV} {bb bn bc : Nat} {R : List SV} {S : Nat → Prop} (h : QP g M a len cap O R4 N fl gl w W b c b' c' gs Q bb bn bc R) (ht : Tcs S W W') (hc : Cur g a len cap W') (hS : ∀ k, S k → (k = g ∨ w.heap.size ≤ k) ∧ k ≠ O ∧ k ≠ R4 ∧ k ≠ b ∧ k ≠ b' ∧ k ≠ bb) : QP g M a len cap O R4 N fl gl w W' b c b' c' gs Q bb bn bc R :=
 ⟨h.pp.past ht hc (fun k hk => by obtain ⟨h1, h2, h3, h4, h5, -⟩ := hS k hk; exact ⟨h1, h2, h3, h4, h5⟩), ⟨h.br.row.past ht (fun k hk => (hS k hk).1.imp (fun e => by have := h.pp.lo; omega) id) (fun k hk e => by
   simp only [Value.ownBlock, Option.some.injEq] at hk
   exact (hS k e).2.2.2.2.2 hk.symm), h.br.ok⟩, h.rl, h.es, h.bne⟩
theorem QP.new {g M : Nat} {a : Option Addr} {len cap O R4 N fl gl : Nat} {w W W' : World} {b c b' c' : Nat} {gs : List Gl} {Q : List FV} {bb bn bc : Nat} {R : List SV} {S : Nat → Prop} {B : Nat} (h : QP g M a len cap O R4 N fl gl w W b c b' c' gs Q bb bn bc R) (hL : Lo g a len (S0 g) w.heap.size) (ht : Tcs S W W') (hS : ∀ k, S k → B ≤ k) (hB : O < B ∧ b < B ∧ b' < B ∧ bb < B) : QP g M a len cap O R4 N fl gl w W' b c b' c' gs Q bb bn bc R := by
 obtain ⟨l0, l1, l2, l3, l4⟩ := h.pp.lo
 refine h.past ht (h.pp.cur.new hL ht (fun k hk => by have := hS k hk; omega)) (fun k hk => ?_)
 have := hS k hk
 exact ⟨.inr (by omega), by omega, by omega, by omega, by omega, by omega⟩
theorem QP.hi {g M : Nat} {a : Option Addr} {len cap O R4 N fl gl : Nat} {w W : World} {b c b' c' : Nat} {gs : List Gl} {Q : List FV} {bb bn bc : Nat} {R : List SV} (h : QP g M a len cap O R4 N fl gl w W b c b' c' gs Q bb bn bc R) : O < W.heap.size ∧ b < W.heap.size ∧ b' < W.heap.size ∧ bb < W.heap.size :=
 ⟨h.pp.lo.2.2.2.2, h.pp.rng.1.2, h.pp.rng.2.2, (h.br.rng bb rfl).2⟩
structure RP (g M : Nat) (a : Option Addr) (len cap O R4 N fl gl : Nat) (w W : World) (b c b' c' : Nat) (gs : List Gl) (Q : List FV) (vb : Value) (R : List SV) : Prop where
 pp : PP g M a len cap O R4 N fl gl w W b c b' c' gs Q
 br : BR (fun k => k < M ∨ k = R4 ∨ k = b') N W vb R
 bne : ∀ k, vb.ownBlock = some k → k ≠ O ∧ k ≠ b ∧ k ≠ b'
theorem QP.rp {g M : Nat} {a : Option Addr} {len cap O R4 N fl gl : Nat} {w W : World} {b c b' c' : Nat} {gs : List Gl} {Q : List FV} {bb bn bc : Nat} {R : List SV} (h : QP g M a len cap O R4 N fl gl w W b c b' c' gs Q bb bn bc R) : RP g M a len cap O R4 N fl gl w W b c b' c' gs Q (.slice (some ⟨bb, 0, none⟩) bn bc) R :=
 ⟨h.pp, h.less, fun k hk => by simp only [Value.ownBlock, Option.some.injEq] at hk; have := h.bne; omega⟩
theorem RP.cp {g M : Nat} {a : Option Addr} {len cap O R4 N fl gl : Nat} {w W : World} {b c b' c' : Nat} {gs : List Gl} {Q : List FV} {vb : Value} {R : List SV} (h : RP g M a len cap O R4 N fl gl w W b c b' c' gs Q vb R) (hl : R.length ≤ 20000) : CP g M a len cap O R4 N fl w W vb (.slice (some ⟨b, 0, none⟩) gl c) b' c' gs Q R := h.pp.cp h.br hl (fun k hk => (h.bne k hk).2.2)
theorem RP.dr {g M : Nat} {a : Option Addr} {len cap O R4 N fl gl : Nat} {w W W' : World} {b c b' c' : Nat} {gs : List Gl} {Q : List FV} {vb : Value} {R : List SV} (h : RP g M a len cap O R4 N fl gl w W b c b' c' gs Q vb R) (hd : Dr g a len cap (S0 g) W W') : RP g M a len cap O R4 N fl gl w W' b c b' c' gs Q vb R :=
 ⟨h.pp.dr hd, ⟨h.br.row.past hd.tcs (fun k hk => .inl (by have e : k = g := hk; have := h.pp.lo; omega)) (fun k hk e => by
   have e : k = g := e
   have := (h.br.rng k hk).1
   have := h.pp.lo
   omega), h.br.ok⟩, h.bne⟩
theorem RP.below {g M : Nat} {a : Option Addr} {len cap O R4 N fl gl : Nat} {w W W' : World} {b c b' c' : Nat} {gs : List Gl} {Q : List FV} {vb : Value} {R : List SV} (h : RP g M a len cap O R4 N fl gl w W b c b' c' gs Q vb R) (hb : Below W.heap.size W W') : RP g M a len cap O R4 N fl gl w W' b c b' c' gs Q vb R :=
 ⟨h.pp.below hb, h.br.below hb, h.bne⟩
theorem RP.app {g M : Nat} {a : Option Addr} {len cap O R4 N fl gl : Nat} {w W : World} {b c b' c' : Nat} {gs : List Gl} {Q : List FV} {vb : Value} {R : List SV} (h : RP g M a len cap O R4 N fl gl w W b c b' c' gs Q vb R) (hL : Lo g a len (S0 g) w.heap.size) (hl : R.length ≤ 15000) (kd k v : Int) (nm s : ByteArray) (hn : nm.size ≤ 100000) (hs : s.size ≤ 100000) :
  ∃ va vn vc w3, (Builtin.append_ #[59, 59] 59 #[vb, .slice (some ⟨W.heap.size + 1, 0, none⟩) 1 1]).run Tryz.prog ((W.alloc (.cells #[.int .i64 k, .int .i64 v, .string s] 91)).alloc (.cells #[.int .i64 kd, .string nm, .slice (some ⟨W.heap.size, 0, none⟩) 1 1, .slice none 0 0, .int .i64 0, .int .i64 0] 88)) = .ok (.slice va vn vc) w3 ∧ vn = R.length + 1 ∧ ∃ R', R'.length = R.length + 1 ∧ RP g M a len cap O R4 N fl gl w w3 b c b' c' gs Q (.slice va vn vc) R' := by
 obtain ⟨l0, l1, l2, l3, l4⟩ := h.pp.lo
 obtain ⟨i0, hi, hz0, hz1, hz2⟩ := info_parts info_stmt
 obtain ⟨⟨s1, s2⟩, s3, s4⟩ := h.pp.rng
 have hb1 : Below W.heap.size W (W.alloc (.cells #[.int .i64 k, .int .i64 v, .string s] 91)) := (Below.refl _ _).alloc (Nat.le_refl _) _
 have hN1 := nrow_lit W W.heap.size (Nat.le_refl _) k v s
 have hz1' : (W.alloc (.cells #[.int .i64 k, .int .i64 v, .string s] 91)).heap.size = W.heap.size + 1 := by simp
 obtain ⟨W1, hW1⟩ : ∃ W1, W1 = W.alloc (.cells #[.int .i64 k, .int .i64 v, .string s] 91) := ⟨_, rfl⟩
 rw [← hW1] at hb1 hN1 hz1' ⊢
 rw [← hz1']
 have hb2 : Below W1.heap.size W1 (W1.alloc (.cells #[.int .i64 kd, .string nm, .slice (some ⟨W.heap.size, 0, none⟩) 1 1, .slice none 0 0, .int .i64 0, .int .i64 0] 88)) := (Below.refl _ _).alloc (Nat.le_refl _) _
 have hlit : (W1.alloc (.cells #[.int .i64 kd, .string nm, .slice (some ⟨W.heap.size, 0, none⟩) 1 1, .slice none 0 0, .int .i64 0, .int .i64 0] 88)).ownsRow W1.heap.size 88 6 (.slice (some ⟨W1.heap.size, 0, none⟩) 1 1) 1 (flatS [⟨⟨kd, nm, [⟨k, v, s⟩], [], 0, 0⟩, .slice (some ⟨W.heap.size, 0, none⟩) 1 1, .slice none 0 0, [], []⟩]) := World.ownsRow_lit W1 #[.int .i64 kd, .string nm, .slice (some ⟨W.heap.size, 0, none⟩) 1 1, .slice none 0 0, .int .i64 0, .int .i64 0] 1 (Nat.le_refl _) (by decide) rfl
 have hz2' : (W1.alloc (.cells #[.int .i64 kd, .string nm, .slice (some ⟨W.heap.size, 0, none⟩) 1 1, .slice none 0 0, .int .i64 0, .int .i64 0] 88)).heap.size = W1.heap.size + 1 := by simp
 obtain ⟨W2, hW2⟩ : ∃ W2, W2 = W1.alloc (.cells #[.int .i64 kd, .string nm, .slice (some ⟨W.heap.size, 0, none⟩) 1 1, .slice none 0 0, .int .i64 0, .int .i64 0] 88) := ⟨_, rfl⟩
 rw [← hW2] at hb2 hlit hz2' ⊢
 have h2 := (h.below hb1).below hb2
 have hN2 : NRow W.heap.size W2 _ _ := NRow.below hN1 hb2
 have hvb := h.br.rng
 have hP2 : ∀ W', Tcs (fun j => (j < M ∨ j = R4 ∨ j = b') ∨ vb.ownBlock = some j) W2 W' → PtS [⟨⟨kd, nm, [⟨k, v, s⟩], [], 0, 0⟩, .slice (some ⟨W.heap.size, 0, none⟩) 1 1, .slice none 0 0, [], []⟩] W' := fun W' hW' x hx => by
  simp only [List.mem_singleton] at hx
  subst hx
  refine ⟨nrow_fz hN2 (fun j hj => ?_) W' hW', nodes_none W'⟩
  rcases hj with (e | e | e) | e
  ·omega
  ·omega
  ·omega
  ·exact (hvb j e).2
 obtain ⟨v', w3, r1, r2, r3, r4⟩ := drow_app (Pg := Tryz.prog) (w := W2) (T := 88) (t := 59) (c := 1) (m := 1) (P2 := PtS [⟨⟨kd, nm, [⟨k, v, s⟩], [], 0, 0⟩, .slice (some ⟨W.heap.size, 0, none⟩) 1 1, .slice none 0 0, [], []⟩]) 59 Tryz.underlying59 hi hz0 hz1 hz2 rfl (by decide) h2.br.row (some ⟨W1.heap.size, 0, none⟩) (fun e => by cases e) rfl (fun ad had j u hu => by cases had; exact World.ownsRow.cells hlit (g := W1.heap.size) rfl j u hu) (flatS_one _ fun q hq => by simp only [List.mem_singleton] at hq; subst hq; exact ⟨rfl, rfl⟩) hP2 (by omega) (by decide) (by omega)
 obtain ⟨va, vc, rfl, -⟩ := own_shape r2.row
 refine ⟨va, _, vc, w3, r1, rfl, R ++ [⟨⟨kd, nm, [⟨k, v, s⟩], [], 0, 0⟩, .slice (some ⟨W.heap.size, 0, none⟩) 1 1, .slice none 0 0, [], []⟩], by simp, ?_, ⟨⟨?_, fun W' hW' x hx => ?_⟩, fun x hx => ?_⟩, fun j hj => ?_⟩
 ·refine h2.pp.past r3 (h2.pp.cur.new hL r3 (fun j hj => by have := (hvb j hj).1; omega)) (fun j hj => ?_)
  have := (hvb j hj).1
  obtain ⟨e1, e2, e3⟩ := h.bne j hj
  exact ⟨.inr (by omega), e1, by omega, e2, e3⟩
 ·rw [List.length_append, flatS_append]; exact r2.row
 ·rcases List.mem_append.1 hx with hx | hx
  ·exact (r2.st W' hW').1 x hx
  ·exact (r2.st W' hW').2 x hx
 ·rcases List.mem_append.1 hx with hx | hx
  ·exact h.br.ok x hx
  ·simp only [List.mem_singleton] at hx
   subst hx
   exact ⟨(okN.one hs).more (by omega), okN.nil.more (by omega), hn⟩
 ·rcases r4 j hj with h5 | h5
  ·exact h.bne j h5
  ·omega
theorem nod_copy (w : World) (va : Option Addr) (vn vc : Nat) (es : List Nd) (h : Nodes (w.alloc (.cells #[] 91)) (.slice va vn vc) es) (hl : es.length ≤ 100000) :
  ∃ ua un uc w1, (Builtin.append_ #[85, 85] 85 #[.slice (some ⟨w.heap.size, 0, none⟩) 0 0, .slice va vn vc]).run Tryz.prog (w.alloc (.cells #[] 91)) = .ok (.slice ua un uc) w1 ∧ NRow w.heap.size w1 (.slice ua un uc) es ∧ Below w.heap.size w w1 := by
 have hb0 : Below w.heap.size w (w.alloc (.cells #[] 91)) := (Below.refl _ _).alloc (Nat.le_refl _) _
 have h0 := nrow_nil w w.heap.size (Nat.le_refl _)
 obtain ⟨v', w', r1, r2, r3, r4⟩ := run_appN w.heap.size 85 _ [] h0 (.slice va vn vc) es h (by simp; omega) hb0.size
 obtain ⟨ua, uc, rfl, -⟩ := own_shape r2
 exact ⟨ua, _, uc, w', r1, by simpa using r2, hb0.grown r3 hb0.size (fun j hj => (World.ownsRow.lt h0 j hj).1)⟩
theorem nod_app {B : Nat} {w : World} {v : Value} {ns : List Nd} (h : NRow B w v ns) (hB : B ≤ w.heap.size) (k x : Int) (s : ByteArray) (hl : ns.length ≤ 100000) :
  ∃ ua un uc w1, (Builtin.append_ #[85, 85] 85 #[v, .slice (some ⟨w.heap.size, 0, none⟩) 1 1]).run Tryz.prog (w.alloc (.cells #[.int .i64 k, .int .i64 x, .string s] 91)) = .ok (.slice ua un uc) w1 ∧ un = ns.length + 1 ∧ NRow B w1 (.slice ua un uc) (ns ++ [⟨k, x, s⟩]) ∧ Tcs (fun j => B ≤ j) w w1 := by
 have hb0 : Below w.heap.size w (w.alloc (.cells #[.int .i64 k, .int .i64 x, .string s] 91)) := (Below.refl _ _).alloc (Nat.le_refl _) _
 have h0 := nrow_lit w w.heap.size (Nat.le_refl _) k x s
 have hv : NRow B (w.alloc (.cells #[.int .i64 k, .int .i64 x, .string s] 91)) v ns := NRow.below h hb0
 obtain ⟨v', w', r1, r2, r3, r4⟩ := run_appN B 85 v ns hv _ _ h0.nodes (by simp; omega) (Nat.le_trans hB hb0.size)
 obtain ⟨ua, uc, rfl, -⟩ := own_shape r2
 exact ⟨ua, _, uc, w', r1, by simp, by simpa using r2, (hb0.tcs).next (Tcs.of_grown (S := fun j => B ≤ j) r3 (fun j hj => (World.ownsRow.lt hv j hj).1)) (fun j hj => .inl hj)⟩
theorem gflat_set : ∀ (gs : List Gl) (n : Int) (hp : 0 < gs.length), gflat (gs.set 0 ⟨gs[0].name, n⟩) = (gflat gs).set 1 (.int .i64 n)
 | x :: l, n, _ => rfl
theorem QP.gput {g M : Nat} {a : Option Addr} {len cap O R4 N fl gl : Nat} {w W : World} {b c b' c' : Nat} {gs : List Gl} {Q : List FV} {bb bn bc : Nat} {R : List SV} (h : QP g M a len cap O R4 N fl gl w W b c b' c' gs Q bb bn bc R) (hL : Lo g a len (S0 g) w.heap.size) :
  (∃ k0 : Int, W.cell? ⟨b, 1, none⟩ = some (.int .i64 k0)) ∧ W.frozen? ⟨b, 1, none⟩ = false ∧ ∀ n : Int, ∃ gs', CP g M a len cap O R4 N fl w (W.setCell ⟨b, 1, none⟩ (.int .i64 n)) (.slice (some ⟨bb, 0, none⟩) bn bc) (.slice (some ⟨b, 0, none⟩) gl c) b' c' gs' Q R := by
 obtain ⟨l0, l1, l2, l3, l4⟩ := h.pp.lo
 obtain ⟨q1, q2, q3, q4, q5, q6⟩ := h.pp.ln
 obtain ⟨r1, r2, r3⟩ := h.rl
 obtain ⟨b1, b2, b3⟩ := h.bne
 obtain ⟨e1, e2, e3⟩ := h.pp.ne
 obtain ⟨⟨s1, s2⟩, s3, s4⟩ := h.pp.rng
 have hrow : W.ownsRow N 78 2 (.slice (some ⟨b, 0, none⟩) gl c) gs.length (gflat gs) := h.pp.gr
 have hrow' : W.ownsRow N 78 2 (.slice (some ⟨b, 0, none⟩) gl c) gl (gflat gs) := by have h0 := hrow; rw [q4] at h0; exact h0
 have hfl := gflat_len gs
 refine ⟨⟨gs[0].size, ?_⟩, World.ownsRow.frozenAt hrow' _, fun n => ?_⟩
 ·rw [World.ownsRow.cellAt hrow' 1 (by omega)]
  exact gflat_get gs 0 1 (by omega) (by omega)
 ·have t1 : Tcs (fun k => k = b) W (W.setCell ⟨b, 1, none⟩ (.int .i64 n)) := (Tcs.refl (fun k => k = b) W).setCell (p := ⟨b, 1, none⟩) rfl _
  have hg1 : GR N (W.setCell ⟨b, 1, none⟩ (.int .i64 n)) (.slice (some ⟨b, 0, none⟩) gl c) (gs.set 0 ⟨gs[0].name, n⟩) := by
   unfold GR
   rw [List.length_set, gflat_set gs n (by omega), q4]
   exact (hrow'.stored 1 (.int .i64 n)).1
  have hbr : BR (fun k => k < M ∨ w.heap.size ≤ k) N (W.setCell ⟨b, 1, none⟩ (.int .i64 n)) (.slice (some ⟨bb, 0, none⟩) bn bc) R := ⟨h.br.row.past t1 (fun k hk => .inr (by omega)) (fun k hk e => by simp only [Value.ownBlock, Option.some.injEq] at hk; have e : k = b := e; omega), h.br.ok⟩
  have hfr : F2 (fun k => k < M ∨ w.heap.size ≤ k) N (W.setCell ⟨b, 1, none⟩ (.int .i64 n)) (.slice (some ⟨b', 0, none⟩) fl c') Q := ⟨h.pp.fr.row.past t1 (fun k hk => .inr (by omega)) (fun k hk e => by simp only [Value.ownBlock, Option.some.injEq] at hk; have e : k = b := e; omega), h.pp.fr.ok⟩
  refine ⟨_, h.pp.box.tcs l4 t1 (fun e => e1 e), h.pp.res.tcs (by omega) t1 (fun e => by have e : R4 = b := e; omega), hg1, hfr.less (fun k hk => by rcases hk with e | e; exact .inl e; exact .inr (by omega)), ⟨hbr.row.less (fun k hk => by rcases hk with e | e | e; exact .inl e; exact .inr (by omega); exact .inr (by omega)), hbr.ok⟩, ⟨q1, q3, by rw [List.length_set]; omega, by omega⟩, fun x hx => ?_, h.pp.cur.new hL t1 (fun k hk => by omega), h.pp.tcs.next t1 (fun k hk => .inr (by omega)), ⟨e2, by omega, fun k hk => ?_, fun k hk => ?_⟩, ⟨l0, l1, l2, by omega⟩⟩
  ·rcases List.mem_or_eq_of_mem_set hx with hx | rfl
   ·exact h.pp.gn x hx
   ·exact h.pp.gn gs[0] (List.getElem_mem _)
  ·simp only [Value.ownBlock, Option.some.injEq] at hk
   omega
  ·simp only [Value.ownBlock, Option.some.injEq] at hk
   omega
theorem QP.gapp {g M : Nat} {a : Option Addr} {len cap O R4 N fl gl : Nat} {w W : World} {b c b' c' : Nat} {gs : List Gl} {Q : List FV} {bb bn bc : Nat} {R : List SV} (h : QP g M a len cap O R4 N fl gl w W b c b' c' gs Q bb bn bc R) (hL : Lo g a len (S0 g) w.heap.size) (nm : ByteArray) (hn : nm.size ≤ 100000) :
  (W.alloc (.cells #[.string nm, .int .i64 0] 78)).cell? ⟨O, 0, none⟩ = some (.slice (some ⟨b, 0, none⟩) gl c) ∧ ∃ ya yn yc w', (Builtin.append_ #[23, 23] 23 #[.slice (some ⟨b, 0, none⟩) gl c, .slice (some ⟨W.heap.size, 0, none⟩) 1 1]).run Tryz.prog (W.alloc (.cells #[.string nm, .int .i64 0] 78)) = .ok (.slice ya yn yc) w' ∧ (w'.cell? ⟨O, 0, none⟩ = some (.slice (some ⟨b, 0, none⟩) gl c) ∧ w'.frozen? ⟨O, 0, none⟩ = false) ∧ ∃ gs', CP g M a len cap O R4 N fl w (w'.setCell ⟨O, 0, none⟩ (.slice ya yn yc)) (.slice (some ⟨bb, 0, none⟩) bn bc) (.slice ya yn yc) b' c' gs' Q R := by
 have h1 := h.alloc (.cells #[.string nm, .int .i64 0] 78)
 have hlit : (W.alloc (.cells #[.string nm, .int .i64 0] 78)).ownsRow W.heap.size 78 2 (.slice (some ⟨W.heap.size, 0, none⟩) 1 1) 1 (gflat [⟨nm, 0⟩]) := World.ownsRow_lit W #[.string nm, .int .i64 0] 1 (Nat.le_refl _) (by decide) rfl
 have hz1 : (W.alloc (.cells #[.string nm, .int .i64 0] 78)).heap.size = W.heap.size + 1 := by simp
 obtain ⟨W1, hW1⟩ : ∃ W1, W1 = W.alloc (.cells #[.string nm, .int .i64 0] 78) := ⟨_, rfl⟩
 rw [← hW1] at h1 hlit hz1 ⊢
 refine ⟨(h1.pp.box 0 _ rfl).1, ?_⟩
 obtain ⟨l0, l1, l2, l3, l4⟩ := h.pp.lo
 obtain ⟨q1, q2, q3, q4, q5, q6⟩ := h.pp.ln
 obtain ⟨r1, r2, r3⟩ := h.rl
 obtain ⟨b1, b2, b3⟩ := h.bne
 obtain ⟨e1, e2, e3⟩ := h.pp.ne
 obtain ⟨⟨s1, s2⟩, s3, s4⟩ := h.pp.rng
 have hbb := h.br.rng bb rfl
 obtain ⟨i0, hi, hz0, hz1', hz2⟩ := info_parts info_glob
 have hrow : W1.ownsRow N 78 2 (.slice (some ⟨b, 0, none⟩) gl c) gs.length (gflat gs) := h1.pp.gr
 obtain ⟨v', w', x1, x2, x3, x4⟩ := run_appG (P := Tryz.prog) (w := W1) N 23 23 78 i0 _ 2 24 Tryz.underlying23 hi hz0 hz1' hz2 rfl (by decide) _ gs.length (gflat gs) hrow (some ⟨W.heap.size, 0, none⟩) 1 1 (gflat [⟨nm, 0⟩]) (fun e => by cases e) rfl (fun ad had j u hu => by cases had; exact World.ownsRow.cells hlit (g := W.heap.size) rfl j u hu) (fun u hu => by simp [gflat, gcl] at hu; rcases hu with rfl | rfl <;> rfl) (by omega) (by decide) (by omega)
 obtain ⟨ya, yc, rfl, -⟩ := own_shape x2
 have t1 : Tcs (fun k => k = b) W1 w' := Tcs.of_grown x3 (fun k hk => by simp only [Value.ownBlock, Option.some.injEq] at hk; exact hk.symm)
 have hbox := h1.pp.box.tcs (by omega) t1 (fun e => e1 e)
 refine ⟨ya, _, yc, w', x1, hbox 0 _ rfl, gs ++ [⟨nm, 0⟩], ?_⟩
 have hb1 : Below W.heap.size W W1 := by rw [hW1]; exact (Below.refl _ _).alloc (Nat.le_refl _) _
 have t2 : Tcs (fun k => k = O) w' (w'.setCell ⟨O, 0, none⟩ (.slice ya (gs.length + 1) yc)) := (Tcs.refl (fun k => k = O) w').setCell (p := ⟨O, 0, none⟩) rfl _
 have hw' := t1.size
 have ho : ∀ k, (Value.slice ya (gs.length + 1) yc).ownBlock = some k → k = b ∨ W1.heap.size ≤ k := fun k hk => by
  rcases x4 k hk with e | e
  ·simp only [Value.ownBlock, Option.some.injEq] at e; exact .inl e.symm
  ·exact .inr e
 have hg2 : GR N (w'.setCell ⟨O, 0, none⟩ (.slice ya (gs.length + 1) yc)) (.slice ya (gs.length + 1) yc) (gs ++ [⟨nm, 0⟩]) := by
  have := own_not x2 t2 (fun k hk e => by have e : k = O := e; rcases ho k hk with h | h <;> omega)
  unfold GR
  rw [List.length_append]
  have e : gflat (gs ++ [⟨nm, 0⟩]) = gflat gs ++ gflat [⟨nm, 0⟩] := by simp [gflat]
  rw [e]
  exact this
 have t12 : Tcs (fun k => k = b ∨ k = O) W1 (w'.setCell ⟨O, 0, none⟩ (.slice ya (gs.length + 1) yc)) := (t1.mono fun k hk => .inl hk).next t2 (fun k hk => .inl (.inr hk))
 have hbr : BR (fun k => k < M ∨ w.heap.size ≤ k) N (w'.setCell ⟨O, 0, none⟩ (.slice ya (gs.length + 1) yc)) (.slice (some ⟨bb, 0, none⟩) bn bc) R := ⟨h1.br.row.past t12 (fun k hk => .inr (by omega)) (fun k hk e => by simp only [Value.ownBlock, Option.some.injEq] at hk; have e : k = b ∨ k = O := e; omega), h.br.ok⟩
 have hfr : F2 (fun k => k < M ∨ w.heap.size ≤ k) N (w'.setCell ⟨O, 0, none⟩ (.slice ya (gs.length + 1) yc)) (.slice (some ⟨b', 0, none⟩) fl c') Q := ⟨h1.pp.fr.row.past t12 (fun k hk => .inr (by omega)) (fun k hk e => by simp only [Value.ownBlock, Option.some.injEq] at hk; have e : k = b ∨ k = O := e; omega), h.pp.fr.ok⟩
 refine ⟨hbox.set 0 _, (h1.pp.res.tcs (by omega) t12 (fun e => by have e : R4 = b ∨ R4 = O := e; omega)), hg2, hfr.less (fun k hk => by rcases hk with e | e; exact .inl e; exact .inr (by omega)), ⟨hbr.row.less (fun k hk => by rcases hk with e | e | e; exact .inl e; exact .inr (by omega); exact .inr (by omega)), hbr.ok⟩, ⟨q1, q3, by simp; omega, by omega⟩, fun x hx => ?_, h1.pp.cur.new hL t12 (fun k hk => by omega), h1.pp.tcs.next t12 (fun k hk => .inr (by omega)), ⟨e2, by omega, fun k hk => ?_, fun k hk => ?_⟩, ⟨l0, l1, l2, by omega⟩⟩
 ·rcases List.mem_append.1 hx with hx | hx
  ·exact h.pp.gn x hx
  ·simp only [List.mem_singleton] at hx
   subst hx
   exact hn
 ·rcases ho k hk with h | h <;> omega
 ·simp only [Value.ownBlock, Option.some.injEq] at hk
  omega
theorem str_copy {B e0 : Nat} {w : World} (h0 : w.ownsRow B 9 1 (.slice (some ⟨e0, 0, none⟩) 0 0) 0 []) (hB : B ≤ w.heap.size) (va : Option Addr) (vn vc : Nat) (ps : List ByteArray) (h : Strs w (.slice va vn vc) ps) (hl : ps.length ≤ 100000) :
  ∃ ua un uc w1, (Builtin.append_ #[58, 58] 58 #[.slice (some ⟨e0, 0, none⟩) 0 0, .slice va vn vc]).run Tryz.prog w = .ok (.slice ua un uc) w1 ∧ w1.ownsRow B 9 1 (.slice ua un uc) ps.length (ps.map Value.string) ∧ Tcs (fun j => j = e0) w w1 ∧ ∀ k, (Value.slice ua un uc).ownBlock = some k → k = e0 ∨ w.heap.size ≤ k := by
 obtain ⟨i0, hi, hz0, hz1, hz2⟩ := info_parts info_str
 obtain ⟨a, c, e, hn, hc⟩ := h.src
 simp only [Value.slice.injEq] at e
 obtain ⟨rfl, rfl, rfl⟩ := e
 obtain ⟨v1, w1, r1, o1, g1, f1⟩ := run_appG (P := Tryz.prog) (w := w) B 58 58 9 i0 _ 1 16 Tryz.underlying58 hi hz0 hz1 hz2 rfl (by decide) _ 0 [] h0 va ps.length vc (ps.map Value.string) (fun e => by rw [hn e]; rfl) (by simp) hc (fun u hu => by obtain ⟨x, -, rfl⟩ := List.mem_map.1 hu; rfl) (by omega) (by decide) hB
 obtain ⟨ua, uc, rfl, -⟩ := own_shape o1
 refine ⟨ua, _, uc, w1, r1, by simpa using o1, Tcs.of_grown g1 (fun j hj => by simp only [Value.ownBlock, Option.some.injEq] at hj; exact hj.symm), fun k hk => ?_⟩
 rcases f1 k hk with h | h
 ·simp only [Value.ownBlock, Option.some.injEq] at h
  exact .inl h.symm
 ·exact .inr h
theorem str_app {B : Nat} {w : World} {v : Value} {ps : List ByteArray} (h : w.ownsRow B 9 1 v ps.length (ps.map Value.string)) (hB : B ≤ w.heap.size) (nm : ByteArray) (hl : ps.length ≤ 100000) :
  ∃ ua un uc w1, (Builtin.append_ #[58, 58] 58 #[v, .slice (some ⟨w.heap.size, 0, none⟩) 1 1]).run Tryz.prog (w.alloc (.cells #[.string nm] 9)) = .ok (.slice ua un uc) w1 ∧ w1.ownsRow B 9 1 (.slice ua un uc) (ps ++ [nm]).length ((ps ++ [nm]).map Value.string) ∧ Tcs (fun j => B ≤ j) w w1 := by
 obtain ⟨i0, hi, hz0, hz1, hz2⟩ := info_parts info_str
 have hb0 : Below w.heap.size w (w.alloc (.cells #[.string nm] 9)) := (Below.refl _ _).alloc (Nat.le_refl _) _
 have h' := ownB h hb0
 have hlit : (w.alloc (.cells #[.string nm] 9)).ownsRow w.heap.size 9 1 (.slice (some ⟨w.heap.size, 0, none⟩) 1 1) 1 [.string nm] := World.ownsRow_lit w #[.string nm] 1 (Nat.le_refl _) (by decide) rfl
 obtain ⟨v2, w2, r2, o2, g2, -⟩ := run_appG (P := Tryz.prog) (w := w.alloc (.cells #[.string nm] 9)) B 58 58 9 i0 _ 1 16 Tryz.underlying58 hi hz0 hz1 hz2 rfl (by decide) v _ _ h' (some ⟨w.heap.size, 0, none⟩) 1 1 [.string nm] (fun e => by cases e) rfl (fun ad had j u hu => by cases had; exact World.ownsRow.cells hlit (g := w.heap.size) rfl j u hu) (fun u hu => by simp at hu; subst hu; rfl) (by omega) (by decide) (Nat.le_trans hB hb0.size)
 obtain ⟨a2, c2, rfl, -⟩ := own_shape o2
 refine ⟨a2, _, c2, w2, r2, ?_, (hb0.tcs).next (Tcs.of_grown (S := fun j => B ≤ j) g2 (fun j hj => (World.ownsRow.lt h' j hj).1)) (fun j hj => .inl hj)⟩
 have e1 : (ps ++ [nm]).length = ps.length + 1 := by simp
 have e2 : (ps ++ [nm]).map Value.string = ps.map Value.string ++ [.string nm] := by simp
 rw [e1, e2]
 exact o2
theorem QP.pick {g M : Nat} {a : Option Addr} {len cap O R4 N fl gl : Nat} {w W : World} {b c b' c' : Nat} {gs : List Gl} {Q : List FV} {bb bn bc : Nat} {R : List SV} (h : QP g M a len cap O R4 N fl gl w W b c b' c' gs Q bb bn bc R) (hl : len ≤ 1048576) (hL : Lo g a len (S0 g) w.heap.size) (ps : List ByteArray) (cs : Array Value) (n : Nat) (hn : n = ps.length) (hcs : cs.toList = ps.map Value.string) (hb : 1 ≤ n ∧ n ≤ 1000) (hs : ps.all (fun p => decide (p.size ≤ 100000)) = true) :
  Calls Tryz.prog 43 #[.pointer (some ⟨g, 0, none⟩), .slice (some ⟨W.heap.size, 0, none⟩) n n] (W.alloc (.cells cs 9)) fun e w' => ∃ s, s.size ≤ 100000 ∧ e = .returned (.string s) ∧ QP g M a len cap O R4 N fl gl w w' b c b' c' gs Q bb bn bc R := by
 have hs0 : S0 g g := rfl
 have hlo := h.pp.lo
 refine (pick_any g a len cap (S0 g) ps _ _ hl hs0 (h.alloc _).pp.cur (lit_fz ps cs n hn hcs hb.2 (fun k hk => by have e : k = g := hk; omega)) (by omega)).mono ?_
 rintro e w' ⟨s, hm, rfl, hd⟩
 exact ⟨s, by simpa using List.all_eq_true.1 hs s hm, rfl, (h.alloc _).dr hd⟩
theorem QP.low {g M : Nat} {a : Option Addr} {len cap O R4 N fl gl : Nat} {w W : World} {b c b' c' : Nat} {gs : List Gl} {Q : List FV} {bb bn bc : Nat} {R : List SV} (h : QP g M a len cap O R4 N fl gl w W b c b' c' gs Q bb bn bc R) : ∀ k, S0 g k → k < W.heap.size := fun k hk => by have e : k = g := hk; have := h.pp.lo; omega
end
section
open Go.RowKit
theorem QP.drew {g M : Nat} {a : Option Addr} {len cap O R4 N fl gl : Nat} {w W : World} {b c b' c' : Nat} {gs : List Gl} {Q : List FV} {bb bn bc : Nat} {R : List SV} (h : QP g M a len cap O R4 N fl gl w W b c b' c' gs Q bb bn bc R) : QP g M a len cap O R4 N fl gl w W.drew b c b' c' gs Q bb bn bc R := h.below (Below.refl _ _).drew
theorem QP.rlen {g M : Nat} {a : Option Addr} {len cap O R4 N fl gl : Nat} {w W : World} {b c b' c' : Nat} {gs : List Gl} {Q : List FV} {bb bn bc : Nat} {R : List SV} (h : QP g M a len cap O R4 N fl gl w W b c b' c' gs Q bb bn bc R) : R.length ≤ 15000 := by have := h.rl; omega
theorem QP.rlen' {g M : Nat} {a : Option Addr} {len cap O R4 N fl gl : Nat} {w W : World} {b c b' c' : Nat} {gs : List Gl} {Q : List FV} {bb bn bc : Nat} {R R' : List SV} (h : QP g M a len cap O R4 N fl gl w W b c b' c' gs Q bb bn bc R) (he : R'.length = R.length + 1) : R'.length ≤ 20000 := by have := h.rl; omega
theorem nat_int {f n : Nat} (h : f < n) : (0 : Int) ≤ (f : Int) ∧ (f : Int) < (n : Int) := by omega
theorem le_big {n : Nat} (h : n ≤ 3000) : n ≤ 100000 := by omega
theorem le_big2 {n : Nat} (h : n ≤ 2100) : n ≤ 100000 := by omega
theorem le_15 {n : Nat} (h : n ≤ 10000) : n ≤ 15000 := by omega
theorem le_20 {n : Nat} (h : n ≤ 10000) : n ≤ 20000 := by omega
def lenS : Value → Nat
 | .slice _ n _ => n
 | _ => 0
theorem loop_next {vn xn n n' : Nat} {y : Int} (hy : y < 2) (hlt : (vn : Int) < 500 + y) (hv : vn = n) (hx : xn = n + 1) (hn : n' = n + 1) : xn = n' ∧ n' ≤ 10000 ∧ 502 - xn < 502 - vn := by omega
theorem loop_next2 {vn xn : Nat} {ns : List Nd} {y k x : Int} {s : ByteArray} (hy : y < 60) (hlt : (vn : Int) < 1960 + y) (hv : vn = ns.length) (hx : xn = ns.length + 1) (ho : okN ns 2100) (hs : s.size ≤ 100000) : xn = (ns ++ [(⟨k, x, s⟩ : Nd)]).length ∧ (ns ++ [(⟨k, x, s⟩ : Nd)]).length ≤ 2100 ∧ okN (ns ++ [⟨k, x, s⟩]) 2100 ∧ 2100 - xn < 2100 - vn := by
 have h1 : (ns ++ [(⟨k, x, s⟩ : Nd)]).length = ns.length + 1 := by simp
 refine ⟨by omega, by omega, ⟨by omega, fun n hn => ?_⟩, by omega⟩
 rcases List.mem_append.1 hn with hn | hn
 ·exact ho.2 n hn
 ·simp only [List.mem_singleton] at hn
  subst hn
  exact hs
theorem size_alloc_le (w : World) (o : Obj) : w.heap.size ≤ (w.alloc o).heap.size := by simp
theorem QP.keep {g M : Nat} {a : Option Addr} {len cap O R4 N fl gl : Nat} {w W X : World} {b c b' c' : Nat} {gs : List Gl} {Q : List FV} {bb bn bc : Nat} {R : List SV} (h : QP g M a len cap O R4 N fl gl w W b c b' c' gs Q bb bn bc R) {x : Nat} {p q : Value} (hs : W.cell? ⟨O, 1, none⟩ = some p ∧ W.cell? ⟨b', x, none⟩ = some q) (ht : Tcs (fun k => k = g ∨ W.heap.size ≤ k) W X) : X.cell? ⟨O, 1, none⟩ = some p ∧ X.cell? ⟨b', x, none⟩ = some q := by
 obtain ⟨l0, l1, l2, l3, l4⟩ := h.pp.lo
 obtain ⟨⟨s1, s2⟩, s3, s4⟩ := h.pp.rng
 exact ⟨(World.cell?_of_block (ht.block O l4 (fun e => by have e : O = g ∨ W.heap.size ≤ O := e; omega))).trans hs.1, (World.cell?_of_block (ht.block b' s4 (fun e => by have e : b' = g ∨ W.heap.size ≤ b' := e; omega))).trans hs.2⟩
theorem mem_small {ps : List ByteArray} {s : ByteArray} (h : s ∈ ps) (hs : ps.all (fun p => decide (p.size ≤ 100000)) = true) : s.size ≤ 100000 := by simpa using List.all_eq_true.1 hs s h
section
variable {P : Program} {ops : Array Oper} {Q : Exit → Act → World → Prop} {md : Region.Mode} {S : World → Prop} {l : Nat}
theorem wpAnyE_two {i j : Nat} {oi oj : Oper} {fuel : Nat} {listed : Array Bool} {a : Act} {w : World} (hr : Region.ready md ops listed = [i, j]) (hi : ops[i]? = some oi) (hj : ops[j]? = some oj)
  (h1 : ∀ K : Act → World → Prop, Shut (∀ a' w', (i ≠ l → S w') → wpAnyE P md ops Q S l fuel (listed.setIfInBounds i true) a' w' → K a' w') → if Region.wanted oi (yielded ops a.tmps) = true then oi.wp P a w K Q else K (a.put oi.dst undef) w)
  (h2 : ∀ K : Act → World → Prop, Shut (∀ a' w', (j ≠ l → S w') → wpAnyE P md ops Q S l fuel (listed.setIfInBounds j true) a' w' → K a' w') → if Region.wanted oj (yielded ops a.tmps) = true then oj.wp P a w K Q else K (a.put oj.dst undef) w) : wpAnyE P md ops Q S l (fuel + 1) listed a w := by
 have key : ∀ (x : Nat) (o : Oper), ops[x]? = some o → (∀ K : Act → World → Prop, Shut (∀ a' w', (x ≠ l → S w') → wpAnyE P md ops Q S l fuel (listed.setIfInBounds x true) a' w' → K a' w') → if Region.wanted o (yielded ops a.tmps) = true then o.wp P a w K Q else K (a.put o.dst undef) w) → wpOp P ops Q x (fun a' w' => (x ≠ l → S w') ∧ wpAnyE P md ops Q S l fuel (listed.setIfInBounds x true) a' w') a w := fun x o ho h => by
  unfold wpOp
  simp only [ho]
  have := h (fun a' w' => (x ≠ l → S w') ∧ wpAnyE P md ops Q S l fuel (listed.setIfInBounds x true) a' w') (fun a' w' h1 h2 => ⟨h1, h2⟩)
  split
  ·rename_i hw
   rw [if_pos hw] at this
   exact .inl this
  ·rename_i hw
   rw [if_neg hw] at this
   exact this
 refine ⟨fun h0 => (by rw [hr] at h0; cases h0), fun x hx => ?_⟩
 rw [hr] at hx
 simp only [List.mem_cons, List.not_mem_nil, or_false] at hx
 rcases hx with rfl | rfl
 ·exact key x oi hi h1
 ·exact key x oj hj h2
end
theorem le_20b {n : Nat} (h : n ≤ 20) : n ≤ 100000 := by omega
theorem size_2 (w : World) (o p : Obj) : w.heap.size ≤ ((w.alloc o).alloc p).heap.size := by simp; omega
theorem eq_le {k n : Nat} (h : k = n) : n ≤ k := by omega
theorem eq_le1 {k n : Nat} (h : k = n + 1) : n ≤ k := by omega
theorem ps_snoc {ps : List ByteArray} {s : ByteArray} (h : ps.length ≤ 20 ∧ ∀ p ∈ ps, p.size ≤ 100000) (hs : s.size ≤ 100000) : (ps ++ [s]).length ≤ 30 ∧ ∀ p ∈ ps ++ [s], p.size ≤ 100000 := by
 refine ⟨by simp; omega, fun p hp => ?_⟩
 rcases List.mem_append.1 hp with hp | hp
 ·exact h.2 p hp
 ·simp only [List.mem_singleton] at hp
  subst hp
  exact hs
theorem lit_e (w : World) (o : Obj) : ((w.alloc o).alloc (.cells #[] 9)).ownsRow w.heap.size 9 1 (.slice (some ⟨w.heap.size + 1, 0, none⟩) 0 0) 0 [] := by
 have := World.ownsRow_lit (base := w.heap.size) (w.alloc o) (e := 9) (size := 1) #[] 0 (size_alloc_le w o) (by decide) rfl
 simpa using this
theorem lit_a {g : Nat} {w X : World} (ps : List ByteArray) (cs : Array Value) (hcs : cs.toList = ps.map Value.string) (hg : g < w.heap.size) (ht : Tcs (fun j => j = w.heap.size) ((w.alloc (.cells #[] 9)).alloc (.cells cs 9)) X) (hl : ps.length = 4 := by rfl) : ∀ W, Tcs (S0 g) X W → Strs W (.slice (some ⟨w.heap.size + 1, 0, none⟩) 4 4) ps := fun W hW => by
 have h := lit_fz (S := fun k => k = g ∨ k = w.heap.size) (w := w.alloc (.cells #[] 9)) ps cs 4 hl.symm hcs (by decide) (fun k hk => by simp; omega) W ((ht.mono fun k hk => .inr hk).next hW (fun k hk => .inl (.inl hk)))
 simpa using h
theorem lit_b {g : Nat} {w X : World} (ps : List ByteArray) (cs : Array Value) (hcs : cs.toList = ps.map Value.string) (hg : g < w.heap.size) (ht : Tcs (fun j => j = w.heap.size + 1) ((w.alloc (.cells cs 9)).alloc (.cells #[] 9)) X) (hl : ps.length = 4 := by rfl) : ∀ W, Tcs (S0 g) X W → Strs W (.slice (some ⟨w.heap.size, 0, none⟩) 4 4) ps := fun W hW => by
 have h0 : Tcs (S0 g) (w.alloc (.cells cs 9)) X := ((Tcs.refl (S0 g) _).alloc (.cells #[] 9)).next ht (fun k hk => .inr (by have e : k = w.heap.size + 1 := hk; simp; omega))
 exact lit_fz (S := S0 g) (w := w) ps cs 4 hl.symm hcs (by decide) (fun k hk => by have e : k = g := hk; omega) W (h0.trans hW)
end
end Go.Proofs.YtjhmgjimppflhaaGreatDoor
