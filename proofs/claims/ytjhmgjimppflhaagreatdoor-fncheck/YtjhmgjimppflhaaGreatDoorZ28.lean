import Derived.Test.YtjhmgjimppflhaaGreatDoorZ27
import Derived.Deep.RegionHeldLaw
import Derived.Test.YtjhmgjimppflhaaGreatDoorProg
namespace Go.Proofs.YtjhmgjimppflhaaGreatDoor
set_option linter.unusedVariables false
set_option linter.unusedSimpArgs false
set_option maxRecDepth 100000
set_option maxHeartbeats 16000000
section
open Go.RowKit
theorem QP.below {g M : Nat} {a : Option Addr} {len cap O R4 N fl gl : Nat} {w W W' : World} {b c b' c' : Nat} {gs : List Gl} {Q : List FV} {bb bn bc : Nat} {R : List SV} (h : QP g M a len cap O R4 N fl gl w W b c b' c' gs Q bb bn bc R) (hb : Below W.heap.size W W') : QP g M a len cap O R4 N fl gl w W' b c b' c' gs Q bb bn bc R :=
  ⟨h.pp.below hb, h.br.below hb, h.rl, h.es, h.bne⟩
theorem QP.alloc {g M : Nat} {a : Option Addr} {len cap O R4 N fl gl : Nat} {w W : World} {b c b' c' : Nat} {gs : List Gl} {Q : List FV} {bb bn bc : Nat} {R : List SV} (h : QP g M a len cap O R4 N fl gl w W b c b' c' gs Q bb bn bc R) (o : Obj) : QP g M a len cap O R4 N fl gl w (W.alloc o) b c b' c' gs Q bb bn bc R :=
  h.below ((Below.refl _ _).alloc (Nat.le_refl _) o)
theorem PP.cp {g M : Nat} {a : Option Addr} {len cap O R4 N fl gl : Nat} {w W : World} {b c b' c' : Nat} {gs : List Gl} {Q : List FV} {vb : Value} {R : List SV} (h : PP g M a len cap O R4 N fl gl w W b c b' c' gs Q) (hbr : BR (fun k => k < M ∨ k = R4 ∨ k = b') N W vb R) (hl : R.length ≤ 20000) (hne : ∀ k, vb.ownBlock = some k → k ≠ b') : CP g M a len cap O R4 N fl w W vb (.slice (some ⟨b, 0, none⟩) gl c) b' c' gs Q R := by
  obtain ⟨l0, l1, l2, l3, l4⟩ := h.lo
  obtain ⟨q1, q2, q3, q4, q5, q6⟩ := h.ln
  obtain ⟨e1, e2, e3⟩ := h.ne
  obtain ⟨⟨s1, s2⟩, s3, s4⟩ := h.rng
  refine ⟨h.box, h.res, h.gr, h.fr.less (fun k hk => by rcases hk with e | e; exact .inl e; exact .inr (by omega)), hbr, ⟨q1, q3, by omega, hl⟩, h.gn, h.cur, h.tcs, ⟨e2, by omega, fun k hk => ?_, hne⟩, ⟨l0, l1, l2, by omega⟩⟩
  simp only [Value.ownBlock, Option.some.injEq] at hk
  omega
theorem QP.less {g M : Nat} {a : Option Addr} {len cap O R4 N fl gl : Nat} {w W : World} {b c b' c' : Nat} {gs : List Gl} {Q : List FV} {bb bn bc : Nat} {R : List SV} (h : QP g M a len cap O R4 N fl gl w W b c b' c' gs Q bb bn bc R) : BR (fun k => k < M ∨ k = R4 ∨ k = b') N W (.slice (some ⟨bb, 0, none⟩) bn bc) R := by
  obtain ⟨l0, l1, l2, l3, l4⟩ := h.pp.lo
  obtain ⟨⟨s1, s2⟩, s3, s4⟩ := h.pp.rng
  exact ⟨h.br.row.less (fun k hk => by rcases hk with e | e | e; exact .inl e; exact .inr (by omega); exact .inr (by omega)), h.br.ok⟩
/-- A cell of a statement is read and written. -/
theorem QP.put {g M : Nat} {a : Option Addr} {len cap O R4 N fl gl : Nat} {w W : World} {b c b' c' : Nat} {gs : List Gl} {Q : List FV} {bb bn bc : Nat} {R : List SV} (h : QP g M a len cap O R4 N fl gl w W b c b' c' gs Q bb bn bc R) (hL : Lo g a len (S0 g) w.heap.size) (i : Nat) (hi : i < bn) (cc : Nat) (hc : cc < 6) :
    ∃ x, W.cell? ⟨bb, i * 6 + cc, none⟩ = (cellsS x)[cc]? ∧ W.frozen? ⟨bb, i * 6 + cc, none⟩ = false ∧ (okN x.s.e 5000 ∧ okN x.s.f 5000 ∧ x.s.name.size ≤ 100000) ∧ x.s.e.length ≤ 3000 ∧ (∀ W', Tcs (fun k => k < M ∨ w.heap.size ≤ k) W W' → Nodes W' x.ve x.s.e ∧ Nodes W' x.vf x.s.f) ∧
     ∀ (u : Value) (x' : SV), cellsS x' = (cellsS x).set cc u → (∀ W', Tcs (fun k => (k < M ∨ k = R4 ∨ k = b') ∨ k = bb) W W' → Nodes W' x'.ve x'.s.e ∧ Nodes W' x'.vf x'.s.f) → (okN x'.s.e 5000 ∧ okN x'.s.f 5000 ∧ x'.s.name.size ≤ 100000) → ∃ R', CP g M a len cap O R4 N fl w (W.setCell ⟨bb, i * 6 + cc, none⟩ u) (.slice (some ⟨bb, 0, none⟩) bn bc) (.slice (some ⟨b, 0, none⟩) gl c) b' c' gs Q R' := by
  obtain ⟨l0, l1, l2, l3, l4⟩ := h.pp.lo
  obtain ⟨r1, r2, r3⟩ := h.rl
  obtain ⟨b1, b2, b3⟩ := h.bne
  have hiR : i < R.length := by omega
  have hbb := h.br.rng bb rfl
  have hrow : W.ownsRow N 88 6 (.slice (some ⟨bb, 0, none⟩) bn bc) R.length (flatS R) := h.br.row.row
  have hrow' : W.ownsRow N 88 6 (.slice (some ⟨bb, 0, none⟩) bn bc) bn (flatS R) := by have h0 := hrow; rw [r1] at h0; exact h0
  have hfl := flatS_len R
  refine ⟨R[i], ?_, World.ownsRow.frozenAt hrow' _, h.br.ok _ (List.getElem_mem hiR), h.es _ (List.getElem_mem hiR), fun W' hW' => h.br.row.st W' (hW'.mono fun k hk => .inl hk) _ (List.getElem_mem hiR), fun u x' hx hp ho => ?_⟩
  · rw [World.ownsRow.cellAt hrow' (i * 6 + cc) (by omega), flatS_get R i cc hiR hc]
  · have hbr := h.less.put i cc u x' hiR hc hx hp ho
    have t1 : Tcs (fun k => k = bb) W (W.setCell ⟨bb, i * 6 + cc, none⟩ u) := (Tcs.refl (fun k => k = bb) W).setCell (p := ⟨bb, i * 6 + cc, none⟩) rfl _
    have hpp := h.pp.past t1 (h.pp.cur.new hL t1 (fun k hk => by omega)) (fun k hk => by have e : k = bb := hk; exact ⟨.inr (by omega), by omega, by omega, by omega, by omega⟩)
    exact ⟨_, hpp.cp hbr (by rw [List.length_set]; omega) (fun k hk => by simp only [Value.ownBlock, Option.some.injEq] at hk; omega)⟩
theorem QP.kind {g M : Nat} {a : Option Addr} {len cap O R4 N fl gl : Nat} {w W : World} {b c b' c' : Nat} {gs : List Gl} {Q : List FV} {bb bn bc : Nat} {R : List SV} (h : QP g M a len cap O R4 N fl gl w W b c b' c' gs Q bb bn bc R) (hL : Lo g a len (S0 g) w.heap.size) (i : Nat) (hi : i < bn) :
    (∃ k0 : Int, W.cell? ⟨bb, i * 6, none⟩ = some (.int .i64 k0)) ∧ W.frozen? ⟨bb, i * 6, none⟩ = false ∧ ∀ n : Int, ∃ R', CP g M a len cap O R4 N fl w (W.setCell ⟨bb, i * 6, none⟩ (.int .i64 n)) (.slice (some ⟨bb, 0, none⟩) bn bc) (.slice (some ⟨b, 0, none⟩) gl c) b' c' gs Q R' := by
  obtain ⟨x, hx, hz, ho, hl, hp, hs⟩ := h.put hL i hi 0 (by omega)
  obtain ⟨l0, l1, l2, l3, l4⟩ := h.pp.lo
  have hb' := h.pp.rng
  have hbb := h.br.rng bb rfl
  refine ⟨⟨_, hx⟩, hz, fun n => hs _ ⟨⟨n, x.s.name, x.s.e, x.s.f, x.s.thn, x.s.els⟩, x.ve, x.vf, [], []⟩ rfl (fun W' hW' => hp W' (hW'.mono fun k hk => ?_)) ho⟩
  rcases hk with (e | e | e) | e
  · exact .inl e
  all_goals exact .inr (by omega)
theorem QP.nm {g M : Nat} {a : Option Addr} {len cap O R4 N fl gl : Nat} {w W : World} {b c b' c' : Nat} {gs : List Gl} {Q : List FV} {bb bn bc : Nat} {R : List SV} (h : QP g M a len cap O R4 N fl gl w W b c b' c' gs Q bb bn bc R) (hL : Lo g a len (S0 g) w.heap.size) (i : Nat) (hi : i < bn) :
    (∃ k0, W.cell? ⟨bb, i * 6 + 1, none⟩ = some (.string k0)) ∧ W.frozen? ⟨bb, i * 6 + 1, none⟩ = false ∧ ∀ n : ByteArray, n.size ≤ 100000 → ∃ R', CP g M a len cap O R4 N fl w (W.setCell ⟨bb, i * 6 + 1, none⟩ (.string n)) (.slice (some ⟨bb, 0, none⟩) bn bc) (.slice (some ⟨b, 0, none⟩) gl c) b' c' gs Q R' := by
  obtain ⟨x, hx, hz, ho, hl, hp, hs⟩ := h.put hL i hi 1 (by omega)
  obtain ⟨l0, l1, l2, l3, l4⟩ := h.pp.lo
  have hb' := h.pp.rng
  have hbb := h.br.rng bb rfl
  refine ⟨⟨_, hx⟩, hz, fun n hn => hs _ ⟨⟨x.s.kind, n, x.s.e, x.s.f, x.s.thn, x.s.els⟩, x.ve, x.vf, [], []⟩ rfl (fun W' hW' => hp W' (hW'.mono fun k hk => ?_)) ⟨ho.1, ho.2.1, hn⟩⟩
  rcases hk with (e | e | e) | e
  · exact .inl e
  all_goals exact .inr (by omega)
theorem QP.thn {g M : Nat} {a : Option Addr} {len cap O R4 N fl gl : Nat} {w W : World} {b c b' c' : Nat} {gs : List Gl} {Q : List FV} {bb bn bc : Nat} {R : List SV} (h : QP g M a len cap O R4 N fl gl w W b c b' c' gs Q bb bn bc R) (hL : Lo g a len (S0 g) w.heap.size) (i : Nat) (hi : i < bn) :
    (∃ k0 : Int, W.cell? ⟨bb, i * 6 + 4, none⟩ = some (.int .i64 k0)) ∧ W.frozen? ⟨bb, i * 6 + 4, none⟩ = false ∧ ∀ n : Int, ∃ R', CP g M a len cap O R4 N fl w (W.setCell ⟨bb, i * 6 + 4, none⟩ (.int .i64 n)) (.slice (some ⟨bb, 0, none⟩) bn bc) (.slice (some ⟨b, 0, none⟩) gl c) b' c' gs Q R' := by
  obtain ⟨x, hx, hz, ho, hl, hp, hs⟩ := h.put hL i hi 4 (by omega)
  obtain ⟨l0, l1, l2, l3, l4⟩ := h.pp.lo
  have hb' := h.pp.rng
  have hbb := h.br.rng bb rfl
  refine ⟨⟨_, hx⟩, hz, fun n => hs _ ⟨⟨x.s.kind, x.s.name, x.s.e, x.s.f, n, x.s.els⟩, x.ve, x.vf, [], []⟩ rfl (fun W' hW' => hp W' (hW'.mono fun k hk => ?_)) ho⟩
  rcases hk with (e | e | e) | e
  · exact .inl e
  all_goals exact .inr (by omega)
/-- The statement's expression; a new one is put in its place. -/
theorem QP.ex {g M : Nat} {a : Option Addr} {len cap O R4 N fl gl : Nat} {w W : World} {b c b' c' : Nat} {gs : List Gl} {Q : List FV} {bb bn bc : Nat} {R : List SV} (h : QP g M a len cap O R4 N fl gl w W b c b' c' gs Q bb bn bc R) (hL : Lo g a len (S0 g) w.heap.size) (i : Nat) (hi : i < bn) :
    (∃ va vn vc es, W.cell? ⟨bb, i * 6 + 2, none⟩ = some (.slice va vn vc) ∧ okN es 3000 ∧ ∀ W', Tcs (fun k => k < M ∨ w.heap.size ≤ k) W W' → Nodes W' (.slice va vn vc) es) ∧ W.frozen? ⟨bb, i * 6 + 2, none⟩ = false ∧ ∀ (ve : Value) (B : Nat) (e : List Nd), NRow B W ve e → (bb < B ∧ O < B ∧ b' < B) → okN e 5000 → ∃ R', CP g M a len cap O R4 N fl w (W.setCell ⟨bb, i * 6 + 2, none⟩ ve) (.slice (some ⟨bb, 0, none⟩) bn bc) (.slice (some ⟨b, 0, none⟩) gl c) b' c' gs Q R' := by
  obtain ⟨x, hx, hz, ho, hl, hp, hs⟩ := h.put hL i hi 2 (by omega)
  obtain ⟨l0, l1, l2, l3, l4⟩ := h.pp.lo
  have hb' := h.pp.rng
  have hbb := h.br.rng bb rfl
  refine ⟨?_, hz, fun ve B e hr hB hn => hs _ ⟨⟨x.s.kind, x.s.name, e, x.s.f, x.s.thn, x.s.els⟩, ve, x.vf, [], []⟩ rfl (fun W' hW' => ⟨nrow_fz hr (fun k hk => ?_) W' hW', (hp W' (hW'.mono fun k hk => ?_)).2⟩) ⟨hn, ho.2.1, ho.2.2⟩⟩
  · have h1 := fun W' hW' => (hp W' hW').1
    obtain ⟨va, vc, ev, -⟩ := (h1 W (Tcs.refl _ _))
    have hx' : W.cell? ⟨bb, i * 6 + 2, none⟩ = some x.ve := hx
    rw [ev] at hx'
    refine ⟨va, _, vc, x.s.e, hx', ⟨hl, ho.1.2⟩, fun W' hW' => ?_⟩
    have := h1 W' hW'
    rw [ev] at this
    exact this
  · rcases hk with (e | e | e) | e <;> omega
  · rcases hk with (e | e | e) | e
    · exact .inl e
    all_goals exact .inr (by omega)
/-- A cell of a function is read and written. -/
theorem QP.fput {g M : Nat} {a : Option Addr} {len cap O R4 N fl gl : Nat} {w W : World} {b c b' c' : Nat} {gs : List Gl} {Q : List FV} {bb bn bc : Nat} {R : List SV} (h : QP g M a len cap O R4 N fl gl w W b c b' c' gs Q bb bn bc R) (hL : Lo g a len (S0 g) w.heap.size) (f : Nat) (hf : f < fl) (cc : Nat) (hc : cc < 3) :
    ∃ x, W.cell? ⟨b', f * 3 + cc, none⟩ = (cellsF x)[cc]? ∧ W.frozen? ⟨b', f * 3 + cc, none⟩ = false ∧ okF2 x.f ∧ x.f.params.length ≤ 20 ∧ (∀ W', Tcs (fun k => k < M ∨ w.heap.size ≤ k) W W' → Strs W' x.vp x.f.params ∧ RdS W' x.vb x.R ∧ x.R.map (·.s) = x.f.body) ∧
     ∀ (u : Value) (x' : FV), cellsF x' = (cellsF x).set cc u → (∀ W', Tcs (fun k => (k < M ∨ k = R4) ∨ k = b') W W' → Strs W' x'.vp x'.f.params ∧ RdS W' x'.vb x'.R ∧ x'.R.map (·.s) = x'.f.body) → okF2 x'.f → ∃ Q', CP g M a len cap O R4 N fl w (W.setCell ⟨b', f * 3 + cc, none⟩ u) (.slice (some ⟨bb, 0, none⟩) bn bc) (.slice (some ⟨b, 0, none⟩) gl c) b' c' gs Q' R := by
  obtain ⟨l0, l1, l2, l3, l4⟩ := h.pp.lo
  obtain ⟨q1, q2, q3, q4, q5, q6⟩ := h.pp.ln
  obtain ⟨r1, r2, r3⟩ := h.rl
  obtain ⟨b1, b2, b3⟩ := h.bne
  obtain ⟨e1, e2, e3⟩ := h.pp.ne
  obtain ⟨⟨s1, s2⟩, s3, s4⟩ := h.pp.rng
  have hfQ : f < Q.length := by omega
  have hbb := h.br.rng bb rfl
  have hfr := h.pp.fr
  have hrow : W.ownsRow N 61 3 (.slice (some ⟨b', 0, none⟩) fl c') Q.length (flatF Q) := hfr.row.row
  have hrow' : W.ownsRow N 61 3 (.slice (some ⟨b', 0, none⟩) fl c') fl (flatF Q) := by have h0 := hrow; rw [q1] at h0; exact h0
  have hfl := flatF_len Q
  refine ⟨Q[f], ?_, World.ownsRow.frozenAt hrow' _, hfr.ok _ (List.getElem_mem hfQ), (h.pp.ob _ (List.getElem_mem hfQ)).2.2.1, fun W' hW' => hfr.row.st W' (hW'.mono fun k hk => .inl hk) _ (List.getElem_mem hfQ), fun u x' hx hp ho => ?_⟩
  · rw [World.ownsRow.cellAt hrow' (f * 3 + cc) (by omega), flatF_get Q f cc hfQ hc]
  · have hless : F2 (fun k => k < M ∨ k = R4) N W (.slice (some ⟨b', 0, none⟩) fl c') Q := hfr.less (fun k hk => by rcases hk with e | e; exact .inl e; exact .inr (by omega))
    have hF1 := hless.put f cc u x' hfQ hc hx hp ho
    have t1 : Tcs (fun k => k = b') W (W.setCell ⟨b', f * 3 + cc, none⟩ u) := (Tcs.refl (fun k => k = b') W).setCell (p := ⟨b', f * 3 + cc, none⟩) rfl _
    have hbr : BR (fun k => k < M ∨ w.heap.size ≤ k) N (W.setCell ⟨b', f * 3 + cc, none⟩ u) (.slice (some ⟨bb, 0, none⟩) bn bc) R := ⟨h.br.row.past t1 (fun k hk => .inr (by omega)) (fun k hk e => by simp only [Value.ownBlock, Option.some.injEq] at hk; have e : k = b' := e; omega), h.br.ok⟩
    refine ⟨_, h.pp.box.tcs l4 t1 (fun e => e2 e), h.pp.res.tcs (by omega) t1 (fun e => by have e : R4 = b' := e; omega), own_not h.pp.gr t1 (fun k hk e => by simp only [Value.ownBlock, Option.some.injEq] at hk; have e : k = b' := e; omega), hF1, ⟨hbr.row.less (fun k hk => by rcases hk with e | e | e; exact .inl e; exact .inr (by omega); exact .inr (by omega)), hbr.ok⟩, ⟨by rw [List.length_set]; exact q1, q3, by omega, by omega⟩, h.pp.gn, h.pp.cur.new hL t1 (fun k hk => by omega), h.pp.tcs.next t1 (fun k hk => .inr (by omega)), ⟨e2, by omega, fun k hk => ?_, fun k hk => ?_⟩, ⟨l0, l1, l2, by omega⟩⟩
    · simp only [Value.ownBlock, Option.some.injEq] at hk
      omega
    · simp only [Value.ownBlock, Option.some.injEq] at hk
      omega
theorem QP.fnm {g M : Nat} {a : Option Addr} {len cap O R4 N fl gl : Nat} {w W : World} {b c b' c' : Nat} {gs : List Gl} {Q : List FV} {bb bn bc : Nat} {R : List SV} (h : QP g M a len cap O R4 N fl gl w W b c b' c' gs Q bb bn bc R) (hL : Lo g a len (S0 g) w.heap.size) (f : Nat) (hf : f < fl) :
    (∃ k0, W.cell? ⟨b', f * 3, none⟩ = some (.string k0)) ∧ W.frozen? ⟨b', f * 3, none⟩ = false ∧ ∀ n : ByteArray, n.size ≤ 100000 → ∃ Q', CP g M a len cap O R4 N fl w (W.setCell ⟨b', f * 3, none⟩ (.string n)) (.slice (some ⟨bb, 0, none⟩) bn bc) (.slice (some ⟨b, 0, none⟩) gl c) b' c' gs Q' R := by
  obtain ⟨x, hx, hz, ho, hl, hp, hs⟩ := h.fput hL f hf 0 (by omega)
  obtain ⟨l0, l1, l2, l3, l4⟩ := h.pp.lo
  have hb' := h.pp.rng
  refine ⟨⟨_, hx⟩, hz, fun n hn => hs _ ⟨⟨n, x.f.params, x.f.body⟩, x.vp, x.vb, x.R, [], []⟩ rfl (fun W' hW' => hp W' (hW'.mono fun k hk => ?_)) ⟨hn, ho.pl, ho.pn, ho.bu, ho.st⟩⟩
  rcases hk with (e | e) | e
  · exact .inl e
  all_goals exact .inr (by omega)
theorem QP.fps {g M : Nat} {a : Option Addr} {len cap O R4 N fl gl : Nat} {w W : World} {b c b' c' : Nat} {gs : List Gl} {Q : List FV} {bb bn bc : Nat} {R : List SV} (h : QP g M a len cap O R4 N fl gl w W b c b' c' gs Q bb bn bc R) (hL : Lo g a len (S0 g) w.heap.size) (f : Nat) (hf : f < fl) :
    (∃ va vn vc ps, W.cell? ⟨b', f * 3 + 1, none⟩ = some (.slice va vn vc) ∧ (ps.length ≤ 20 ∧ ∀ p ∈ ps, p.size ≤ 100000) ∧ ∀ W', Tcs (fun k => k < M ∨ w.heap.size ≤ k) W W' → Strs W' (.slice va vn vc) ps) ∧ W.frozen? ⟨b', f * 3 + 1, none⟩ = false ∧ ∀ (vp : Value) (B : Nat) (ps : List ByteArray), W.ownsRow B 9 1 vp ps.length (ps.map Value.string) → (O < B ∧ b' < B) → (ps.length ≤ 30 ∧ ∀ p ∈ ps, p.size ≤ 100000) → ∃ Q', CP g M a len cap O R4 N fl w (W.setCell ⟨b', f * 3 + 1, none⟩ vp) (.slice (some ⟨bb, 0, none⟩) bn bc) (.slice (some ⟨b, 0, none⟩) gl c) b' c' gs Q' R := by
  obtain ⟨x, hx, hz, ho, hl, hp, hs⟩ := h.fput hL f hf 1 (by omega)
  obtain ⟨l0, l1, l2, l3, l4⟩ := h.pp.lo
  have hb' := h.pp.rng
  refine ⟨?_, hz, fun vp B ps hr hB hn => hs _ ⟨⟨x.f.name, ps, x.f.body⟩, vp, x.vb, x.R, [], []⟩ rfl (fun W' hW' => ⟨own_strs (own_tcs hr hW' (fun k hk => ?_)), (hp W' (hW'.mono fun k hk => ?_)).2⟩) ⟨ho.nm, hn.1, hn.2, ho.bu, ho.st⟩⟩
  · have h1 := fun W' hW' => (hp W' hW').1
    obtain ⟨va, vc, ev, -⟩ := (h1 W (Tcs.refl _ _))
    have hx' : W.cell? ⟨b', f * 3 + 1, none⟩ = some x.vp := hx
    rw [ev] at hx'
    refine ⟨va, _, vc, x.f.params, hx', ⟨hl, ho.pn⟩, fun W' hW' => ?_⟩
    have := h1 W' hW'
    rw [ev] at this
    exact this
  · rcases hk with (e | e) | e <;> omega
  · rcases hk with (e | e) | e
    · exact .inl e
    all_goals exact .inr (by omega)
end
section
section
variable {P : Program} {ops : Array Oper} {Q : Exit → Act → World → Prop} {md : Region.Mode} {S : World → Prop} {l : Nat}
/-- Whatever order is picked from here on, and S holds behind every operation but the last one, l. -/
def wpAnyE (P : Program) (md : Region.Mode) (ops : Array Oper) (Q : Exit → Act → World → Prop) (S : World → Prop) (l : Nat) : Nat → Array Bool → Act → World → Prop
  | 0, listed, a, w => Region.ready md ops listed = [] ∧ Q .normal a w
  | fuel + 1, listed, a, w =>
    (Region.ready md ops listed = [] → Q .normal a w) ∧
    ∀ i ∈ Region.ready md ops listed, wpOp P ops Q i (fun a' w' => (i ≠ l → S w') ∧ wpAnyE P md ops Q S l fuel (listed.setIfInBounds i true) a' w') a w
theorem wpAny_of_E : ∀ (fuel : Nat) (listed : Array Bool) (a : Act) (w : World), wpAnyE P md ops Q S l fuel listed a w → wpAny P md ops Q fuel listed a w
  | 0, _, _, _, h => h
  | fuel + 1, _, _, _, h => ⟨h.1, fun i hi => wpOp_mono (fun a' w' h' => wpAny_of_E fuel _ a' w' h'.2) (h.2 i hi)⟩
/-- Operations that wait for one another, from x on. -/
def chnB (md : Region.Mode) (ops : Array Oper) : Nat → List Nat → Bool
  | _, [] => true
  | x, y :: r => ((ops[y]?).map fun o => o.after.toList.any fun e => Region.binds md e && e.on == x).getD false && chnB md ops y r
def dclB (listed : Array Bool) : Nat → List Nat → Bool
  | _, [] => true
  | x, y :: r => (!(listed.getD y false) || listed.getD x false) && dclB listed y r
def lastOf : Nat → List Nat → Nat
  | x, [] => x
  | _, y :: r => lastOf y r
theorem chn_edge {x y : Nat} {r : List Nat} {listed : Array Bool} (h : chnB md ops x (y :: r) = true) (hy : y ∈ Region.ready md ops listed) : listed.getD x false = true := by
  simp only [chnB, Bool.and_eq_true] at h
  obtain ⟨h, -⟩ := h
  obtain ⟨-, o, ho, hall⟩ := mem_ready.1 hy
  rw [ho] at h
  simp only [Option.map_some, Option.getD_some, List.any_eq_true] at h
  obtain ⟨e, he, hb⟩ := h
  have he : e ∈ o.after := by simpa using he
  simp only [Bool.and_eq_true, beq_iff_eq] at hb
  have := hall e he hb.1
  rwa [hb.2] at this
theorem chn_last : ∀ (c : List Nat) (x : Nat) (listed : Array Bool), c ≠ [] → chnB md ops x c = true → dclB listed x c = true → lastOf x c ∈ Region.ready md ops listed → listed.getD x false = true
  | [], _, _, h, _, _, _ => absurd rfl h
  | [y], x, listed, _, hc, _, hr => chn_edge hc hr
  | y :: z :: r, x, listed, _, hc, hd, hr => by
    simp only [dclB, Bool.and_eq_true] at hd
    have hc' : chnB md ops y (z :: r) = true := by
      simp only [chnB, Bool.and_eq_true] at hc ⊢
      exact hc.2
    have := chn_last (z :: r) y listed (by simp) hc' (by simp only [dclB, Bool.and_eq_true]; exact hd.2) hr
    have h1 := hd.1
    rw [this] at h1
    simpa using h1
theorem dcl_set : ∀ (c : List Nat) (x : Nat) (listed : Array Bool) (j : Nat), chnB md ops x c = true → dclB listed x c = true → j ∈ Region.ready md ops listed → dclB (listed.setIfInBounds j true) x c = true
  | [], _, _, _, _, _, _ => rfl
  | y :: r, x, listed, j, hc, hd, hj => by
    simp only [dclB, Bool.and_eq_true] at hd ⊢
    have hc' : chnB md ops y r = true := by
      simp only [chnB, Bool.and_eq_true] at hc
      exact hc.2
    refine ⟨?_, dcl_set r y listed j hc' hd.2 hj⟩
    by_cases e : j = y
    · subst e
      rw [getD_set_true (chn_edge hc hj)]
      simp
    · rw [getD_set_ne false e]
      rcases Bool.or_eq_true_iff.1 hd.1 with h | h
      · rw [h]; rfl
      · rw [getD_set_true h]; simp
theorem wpAnyE_first {i : Nat} {oi : Oper} {v : Value} {c : List Nat} (hi : ops[i]? = some oi) (hsel : ∀ (j : Nat) (o : Oper) cs b, ops[j]? = some o → o.op ≠ .select cs b)
    (hQ : ∀ c a w, Q (.panic c) (a.put oi.dst v) w → Q (.panic c) a w) (hne : c ≠ []) (hc : chnB md ops i c = true) (hl : lastOf i c = l) :
    ∀ (fuel : Nat) (listed : Array Bool) (a : Act) (w : World),
      (∀ j oj, ops[j]? = some oj → j ≠ i → listed.getD j true = false → (∀ e ∈ oj.after, Region.binds md e = true → e.on ≠ i) → oi.apart ops oj = true) →
      i ∈ Region.ready md ops listed → dclB listed i c = true → YieldsIf P ops S oi v a → S w →
      wpAnyE P md ops Q S l fuel (listed.setIfInBounds i true) (a.put oi.dst v) w → wpAnyE P md ops Q S l (fuel + 1) listed a w := by
  have hnl : ∀ (listed : Array Bool), i ∈ Region.ready md ops listed → dclB listed i c = true → l ∉ Region.ready md ops listed := fun listed hr hd h => by
    have h1 := chn_last c i listed hne hc hd (by rw [hl]; exact h)
    have h0 := (mem_ready.1 hr).1
    rcases Nat.lt_or_ge i listed.size with h' | h'
    · simp [h'] at h0 h1; rw [h0] at h1; cases h1
    · simp [Array.getElem?_eq_none h'] at h1
  intro fuel
  induction fuel with
  | zero =>
    intro listed a w _ hr hd hy hS H
    refine ⟨fun h => (by rw [h] at hr; cases hr), fun j hj => ?_⟩
    by_cases hji : j = i
    · subst hji; exact hy.wpOp hi hS ⟨fun _ => hS, H⟩
    · have := ready_mono hj hji
      rw [H.1] at this
      cases this
  | succ fuel ih =>
    intro listed a w hfree hr hd hy hS H
    refine ⟨fun h => (by rw [h] at hr; cases hr), fun j hj => ?_⟩
    by_cases hji : j = i
    · subst hji; exact hy.wpOp hi hS ⟨fun _ => hS, H⟩
    · have hjl : j ≠ l := fun e => hnl listed hr hd (e ▸ hj)
      have h1 := H.2 j (ready_mono hj hji)
      obtain ⟨hjun, oj, hoj, hall⟩ := mem_ready.1 hj
      have hnot : ∀ e ∈ oj.after, Region.binds md e = true → e.on ≠ i := fun e he hb heq => by
        have h1 := hall e he hb
        have h0 := (mem_ready.1 hr).1
        rw [heq] at h1
        rcases Nat.lt_or_ge i listed.size with h' | h'
        · simp [h'] at h0 h1; rw [h0] at h1; cases h1
        · simp [Array.getElem?_eq_none h'] at h1
      have h2 := wpOp_putIf hoj (hfree j oj hoj hji hjun hnot) (fun cs b => hsel i oi cs b hi) (fun cs b => hsel j oj cs b hoj) hQ hy h1
      have hfree' : ∀ k ok, ops[k]? = some ok → k ≠ i → (listed.setIfInBounds j true).getD k true = false →
          (∀ e ∈ ok.after, Region.binds md e = true → e.on ≠ i) → oi.apart ops ok = true := fun k ok hk hki hun hno => by
        refine hfree k ok hk hki ?_ hno
        by_cases hjk : j = k
        · subst hjk; exact hjun
        · rw [getD_set_ne true hjk] at hun; exact hun
      refine wpOp_mono (fun a' w' h3 => ⟨h3.2.1, ih (listed.setIfInBounds j true) a' w' hfree' (ready_mono hr (Ne.symm hji)) (dcl_set c i listed j hc hd hj) h3.1 (h3.2.1 hjl) ?_⟩) h2
      rw [Array.setIfInBounds_comm _ _ hji]
      exact h3.2.2
theorem wpAnyE_take {i : Nat} {oi : Oper} {v : Value} {fuel : Nat} {listed : Array Bool} {a : Act} {w : World} (c : List Nat) (hi : ops[i]? = some oi)
    (hs : Region.noSelect ops = true) (hf : Region.free md ops listed i = true) (hr : (Region.ready md ops listed).contains i = true)
    (hc : (!c.isEmpty && chnB md ops i c && lastOf i c == l && dclB listed i c) = true)
    (hQ : ∀ c a w, Q (.panic c) (a.put oi.dst v) w → Q (.panic c) a w) (hy : YieldsIf P ops S oi v a) (hS : S w)
    (h : wpAnyE P md ops Q S l fuel (listed.setIfInBounds i true) (a.put oi.dst v) w) : wpAnyE P md ops Q S l (fuel + 1) listed a w := by
  simp only [Bool.and_eq_true, Bool.not_eq_true', beq_iff_eq] at hc
  obtain ⟨⟨⟨h1, h2⟩, h3⟩, h4⟩ := hc
  exact wpAnyE_first hi (Region.noSelect_spec hs) hQ (by intro e; rw [e] at h1; cases h1) h2 h3 fuel listed a w (Region.free_spec hi hf) (by simpa using hr) h4 hy hS h
/-- One operation alone may come up. -/
theorem wpAnyE_one {i : Nat} {o : Oper} {fuel : Nat} {listed : Array Bool} {a : Act} {w : World} (hr : Region.ready md ops listed = [i]) (ho : ops[i]? = some o)
    (h : ∀ K : Act → World → Prop, Shut (∀ a' w', (i ≠ l → S w') → wpAnyE P md ops Q S l fuel (listed.setIfInBounds i true) a' w' → K a' w') → if Region.wanted o (yielded ops a.tmps) = true then o.wp P a w K Q else K (a.put o.dst undef) w) : wpAnyE P md ops Q S l (fuel + 1) listed a w := by
  refine ⟨fun h0 => (by rw [hr] at h0; cases h0), fun j hj => ?_⟩
  rw [hr] at hj
  obtain rfl : j = i := by simpa using hj
  unfold wpOp
  simp only [ho]
  have := h (fun a' w' => (j ≠ l → S w') ∧ wpAnyE P md ops Q S l fuel (listed.setIfInBounds j true) a' w') (fun a' w' h1 h2 => ⟨h1, h2⟩)
  split
  · rename_i hw
    rw [if_pos hw] at this
    exact .inl this
  · rename_i hw
    rw [if_neg hw] at this
    exact this
theorem wpAnyE_done {listed : Array Bool} {a : Act} {w : World} (hr : Region.ready md ops listed = []) (h : Q .normal a w) : ∀ fuel, wpAnyE P md ops Q S l fuel listed a w
  | 0 => ⟨hr, h⟩
  | _ + 1 => ⟨fun _ => h, by rw [hr]; simp⟩
theorem wp_region_E {id : Nat} {a : Act} {w : World} (l : Nat) (S : World → Prop) (hm : P.follows .mixedOrders = true)
    (h : wpAnyE P .any ops Q S l ops.size (Array.replicate ops.size false) a w.drew) : (Code.region id ops true).wp P Q a w :=
  wp_region_any hm (wpAny_of_E _ _ _ _ h)
end
end
end Go.Proofs.YtjhmgjimppflhaaGreatDoor
