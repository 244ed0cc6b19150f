import Derived.Test.YtjhmgjimppflhaaGreatDoorZ26
namespace Go.Proofs.YtjhmgjimppflhaaGreatDoor
set_option linter.unusedVariables false
set_option linter.unusedSimpArgs false
set_option maxRecDepth 100000
set_option maxHeartbeats 16000000
section
open Go.RowKit
theorem own_not {T : TypeId} {sz B n : Nat} {S : Nat → Prop} {w w' : World} {v : Value} {xs : List Value} (h : w.ownsRow B T sz v n xs) (ht : Tcs S w w') (hS : ∀ k, v.ownBlock = some k → ¬ S k) : w'.ownsRow B T sz v n xs := by
  obtain ⟨hx, h | ⟨g, cap, cur, rfl, h1, h2, h3⟩⟩ := h
  · exact ⟨hx, .inl h⟩
  · exact ⟨hx, .inr ⟨g, cap, cur, rfl, h1, (ht.block g (Array.getElem?_eq_some_iff.1 h2).1 (hS g rfl)).trans h2, h3⟩⟩
/-- A row with what it points to, past a turn of some of the blocks that it allows. -/
theorem DRow.past {T : TypeId} {sz B n : Nat} {S S' : Nat → Prop} {w w' : World} {v : Value} {xs : List Value} {P : World → Prop} (h : DRow T sz S B w v n xs P) (ht : Tcs S' w w') (hs : ∀ k, S' k → S k) (hn : ∀ k, v.ownBlock = some k → ¬ S' k) : DRow T sz S B w' v n xs P :=
  ⟨own_not h.row ht hn, fun W hW => h.st W ((ht.mono fun k hk => .inl (hs k hk)).trans hW)⟩
/-- What l2SpoilTree has behind its switch. -/
structure CP (g M : Nat) (a : Option Addr) (len cap O R4 N fl : Nat) (w W : World) (vb vg : Value) (bF cF : Nat) (gs : List Gl) (Q : List FV) (R : List SV) : Prop where
  box : FrC W O [vg, .slice (some ⟨bF, 0, none⟩) fl cF]
  res : FrC W R4 [.slice none 0 0, .slice none 0 0]
  gr : GR N W vg gs
  fr : F2 (fun k => k < M ∨ k = R4) N W (.slice (some ⟨bF, 0, none⟩) fl cF) Q
  br : BR (fun k => k < M ∨ k = R4 ∨ k = bF) N W vb R
  ln : Q.length = fl ∧ fl ≤ 20 ∧ gs.length ≤ 30 ∧ R.length ≤ 20000
  gn : ∀ x ∈ gs, x.name.size ≤ 100000
  cur : Cur g a len cap W
  tcs : Tcs (S0 g) w W
  ne : O ≠ bF ∧ O ≠ R4 ∧ (∀ k, vg.ownBlock = some k → k ≠ bF) ∧ (∀ k, vb.ownBlock = some k → k ≠ bF)
  lo : (g < M ∧ M ≤ w.heap.size) ∧ w.heap.size ≤ R4 ∧ R4 < N ∧ w.heap.size ≤ O
theorem spoil_fin {g M : Nat} {a : Option Addr} {len cap O R4 N fl : Nat} {w W : World} {vb vg : Value} {bF cF : Nat} {gs : List Gl} {Q : List FV} {R : List SV} (h : CP g M a len cap O R4 N fl w W vb vg bF cF gs Q R) (hL : Lo g a len (S0 g) w.heap.size) (f : Nat) (hf : f < fl) :
    (W.cell? ⟨O, 1, none⟩ = some (.slice (some ⟨bF, 0, none⟩) fl cF) ∧ (∃ old, W.cell? ⟨bF, f * 3 + 2, none⟩ = some old) ∧ W.frozen? ⟨bF, f * 3 + 2, none⟩ = false) ∧ ∃ W1, W1 = W.setCell ⟨bF, f * 3 + 2, none⟩ vb ∧ FrC W1 O [vg, .slice (some ⟨bF, 0, none⟩) fl cF] ∧ FrC W1 R4 [.slice none 0 0, .slice none 0 0] ∧ ∃ W2, W2 = (W1.setCell ⟨R4, 0, none⟩ vg).setCell ⟨R4, 1, none⟩ (.slice (some ⟨bF, 0, none⟩) fl cF) ∧ FrC W2 R4 [vg, .slice (some ⟨bF, 0, none⟩) fl cF] ∧ (∃ t, TW (fun k => k < M) W2 vg (.slice (some ⟨bF, 0, none⟩) fl cF) t) ∧ Dr g a len cap (S0 g) w W2 := by
  obtain ⟨hQl, hfl, hgs, hRl⟩ := h.ln
  obtain ⟨n1, n2, n3, n4⟩ := h.ne
  obtain ⟨l0, l1, l2, l3⟩ := h.lo
  have hgl := hL.gl
  have hrg := h.fr.rng bF rfl
  have hfQ : f < Q.length := by omega
  have hrow : W.ownsRow N 61 3 (.slice (some ⟨bF, 0, none⟩) fl cF) fl (flatF Q) := by have := h.fr.row.row; rw [hQl] at this; exact this
  have hfl3 : (flatF Q).length = Q.length * 3 := flatF_len Q
  refine ⟨⟨(h.box 1 _ rfl).1, ⟨(flatF Q)[f * 3 + 2]'(by omega), ?_⟩, World.ownsRow.frozenAt hrow _⟩, _, rfl, ?_⟩
  · rw [World.ownsRow.cellAt hrow (f * 3 + 2) (by omega)]
    exact List.getElem?_eq_getElem _
  obtain ⟨W1, hW1⟩ : ∃ W1, W1 = W.setCell ⟨bF, f * 3 + 2, none⟩ vb := ⟨_, rfl⟩
  have t1 : Tcs (fun k => k = bF) W W1 := by rw [hW1]; exact (Tcs.refl (fun k => k = bF) W).setCell (p := ⟨bF, f * 3 + 2, none⟩) rfl _
  have hOl : O < W.heap.size := World.block_lt_of_cell? _ _ (h.box 0 _ rfl).1
  have hRl4 : R4 < W.heap.size := World.block_lt_of_cell? _ _ (h.res 0 _ rfl).1
  have hO1 := h.box.tcs hOl t1 (fun e => n1 e)
  have hR1 := h.res.tcs hRl4 t1 (fun e => by have e : R4 = bF := e; omega)
  have hp : ∀ W', Tcs (fun k => (k < M ∨ k = R4) ∨ k = bF) W W' → Strs W' Q[f].vp Q[f].f.params ∧ RdS W' vb R ∧ R.map (·.s) = R.map (·.s) := fun W' hW' => by
    refine ⟨(h.fr.row.st W' (hW'.mono fun k hk => hk.imp id fun e => by rw [e]; rfl) Q[f] (List.getElem_mem hfQ)).1, rd_of (B := N) (own_not h.br.row.row hW' fun k hk hs => ?_) (h.br.row.st W' (hW'.mono fun k hk => .inl ?_)), rfl⟩
    · have := (h.br.rng k hk).1
      have := n4 k hk
      rcases hs with (e | e) | e <;> omega
    · rcases hk with (e | e) | e
      · exact .inl e
      · exact .inr (.inl e)
      · exact .inr (.inr e)
  have ho : okF2 ⟨Q[f].f.name, Q[f].f.params, R.map (·.s)⟩ := by
    have k := h.fr.ok Q[f] (List.getElem_mem hfQ)
    exact ⟨k.nm, k.pl, k.pn, by show (R.map (·.s)).length ≤ 20000; simpa using hRl, fun s hs => by obtain ⟨x, hx, rfl⟩ := List.mem_map.1 hs; exact h.br.ok x hx⟩
  have hF1 := h.fr.put f 2 vb ⟨⟨Q[f].f.name, Q[f].f.params, R.map (·.s)⟩, Q[f].vp, vb, R, [], []⟩ hfQ (by omega) rfl hp ho
  rw [← hW1] at hF1 ⊢
  refine ⟨hO1, hR1, _, rfl, ?_⟩
  obtain ⟨W2, hW2⟩ : ∃ W2, W2 = (W1.setCell ⟨R4, 0, none⟩ vg).setCell ⟨R4, 1, none⟩ (.slice (some ⟨bF, 0, none⟩) fl cF) := ⟨_, rfl⟩
  have t2 : Tcs (fun k => k = R4) W1 W2 := by rw [hW2]; exact ((Tcs.refl (fun k => k = R4) W1).setCell (p := ⟨R4, 0, none⟩) rfl _).setCell (p := ⟨R4, 1, none⟩) rfl _
  have hR2 : FrC W2 R4 [vg, .slice (some ⟨bF, 0, none⟩) fl cF] := by rw [hW2]; exact (hR1.set 0 _).set 1 _
  have hG0 : W.ownsRow N 78 2 vg gs.length (gflat gs) := h.gr
  have hG2 : GR N W2 vg gs := own_not (own_not hG0 t1 (fun k hk e => n3 k hk e)) t2 (fun k hk e => by have := (World.ownsRow.lt hG0 k hk).1; have e : k = R4 := e; omega)
  have hF2 := hF1.tcs (t2.mono fun k hk => .inr hk) (fun k hk => by rcases hk with e | e <;> omega)
  rw [← hW2]
  refine ⟨hR2, ⟨⟨gs, _⟩, fun W' hW' => globs_of (own_tcs hG2 hW' fun k hk => by have : k < M := hk; omega), fun W' hW' => hF2.funcs (fun k hk => by rcases hk with e | e <;> omega) W' (hW'.mono fun k hk => .inl hk), hgs, h.gn, by simp; omega, fun x hx => ?_⟩, ⟨?_, ?_⟩⟩
  · obtain ⟨q, hq, rfl⟩ := List.mem_map.1 hx
    exact hF2.ok q hq
  · exact (h.cur.new hL t1 (fun k hk => by omega)).new hL t2 (fun k hk => by omega)
  · exact (h.tcs.next t1 (fun k hk => .inr (by omega))).next t2 (fun k hk => .inr (by omega))
end
section
open Go.RowKit
/-- What l2SpoilTree has behind the copy of the tree. -/
structure PP (g M : Nat) (a : Option Addr) (len cap O R4 N fl gl : Nat) (w W : World) (b c b' c' : Nat) (gs : List Gl) (Q : List FV) : Prop where
  box : FrC W O [.slice (some ⟨b, 0, none⟩) gl c, .slice (some ⟨b', 0, none⟩) fl c']
  res : FrC W R4 [.slice none 0 0, .slice none 0 0]
  gr : GR N W (.slice (some ⟨b, 0, none⟩) gl c) gs
  fr : F2 (fun k => k < M ∨ w.heap.size ≤ k) N W (.slice (some ⟨b', 0, none⟩) fl c') Q
  ln : Q.length = fl ∧ 1 ≤ fl ∧ fl ≤ 20 ∧ gs.length = gl ∧ 1 ≤ gl ∧ gl ≤ 20
  gn : ∀ x ∈ gs, x.name.size ≤ 100000
  ob : ∀ x ∈ Q, 1 ≤ x.R.length ∧ x.R.length ≤ 10000 ∧ x.f.params.length ≤ 20 ∧ ∀ s ∈ x.f.body, s.e.length ≤ 3000
  cur : Cur g a len cap W
  tcs : Tcs (S0 g) w W
  ne : O ≠ b ∧ O ≠ b' ∧ b ≠ b'
  lo : (g < M ∧ M ≤ w.heap.size) ∧ w.heap.size ≤ R4 ∧ R4 < N ∧ N ≤ O ∧ O < W.heap.size
/-- Past a turn of blocks that are none of these. -/
theorem PP.past {g M : Nat} {a : Option Addr} {len cap O R4 N fl gl : Nat} {w W W' : World} {b c b' c' : Nat} {gs : List Gl} {Q : List FV} {S : Nat → Prop} (h : PP g M a len cap O R4 N fl gl w W b c b' c' gs Q) (ht : Tcs S W W') (hc : Cur g a len cap W') (hS : ∀ k, S k → (k = g ∨ w.heap.size ≤ k) ∧ k ≠ O ∧ k ≠ R4 ∧ k ≠ b ∧ k ≠ b') : PP g M a len cap O R4 N fl gl w W' b c b' c' gs Q := by
  obtain ⟨l0, l1, l2, l3, l4⟩ := h.lo
  have hRl4 : R4 < W.heap.size := by omega
  refine ⟨h.box.tcs l4 ht (fun e => (hS _ e).2.1 rfl), h.res.tcs hRl4 ht (fun e => (hS _ e).2.2.1 rfl), own_not h.gr ht (fun k hk e => ?_), ⟨h.fr.row.past ht (fun k hk => (hS k hk).1.imp (fun e => by omega) id) (fun k hk e => ?_), h.fr.ok⟩, h.ln, h.gn, h.ob, hc, h.tcs.next ht (fun k hk => (hS k hk).1), h.ne, ⟨l0, l1, l2, l3, by have := ht.size; omega⟩⟩
  · simp only [Value.ownBlock, Option.some.injEq] at hk
    exact (hS _ e).2.2.2.1 hk.symm
  · simp only [Value.ownBlock, Option.some.injEq] at hk
    exact (hS _ e).2.2.2.2 hk.symm
theorem PP.rng {g M : Nat} {a : Option Addr} {len cap O R4 N fl gl : Nat} {w W : World} {b c b' c' : Nat} {gs : List Gl} {Q : List FV} (h : PP g M a len cap O R4 N fl gl w W b c b' c' gs Q) : (N ≤ b ∧ b < W.heap.size) ∧ (N ≤ b' ∧ b' < W.heap.size) := ⟨World.ownsRow.lt h.gr b rfl, h.fr.rng b' rfl⟩
theorem PP.dr {g M : Nat} {a : Option Addr} {len cap O R4 N fl gl : Nat} {w W W' : World} {b c b' c' : Nat} {gs : List Gl} {Q : List FV} (h : PP g M a len cap O R4 N fl gl w W b c b' c' gs Q) (hd : Dr g a len cap (S0 g) W W') : PP g M a len cap O R4 N fl gl w W' b c b' c' gs Q :=
  h.past hd.tcs hd.cur (fun k hk => by
    have e : k = g := hk
    have := h.rng
    have := h.lo
    exact ⟨.inl e, by omega, by omega, by omega, by omega⟩)
theorem PP.below {g M : Nat} {a : Option Addr} {len cap O R4 N fl gl : Nat} {w W W' : World} {b c b' c' : Nat} {gs : List Gl} {Q : List FV} (h : PP g M a len cap O R4 N fl gl w W b c b' c' gs Q) (hb : Below W.heap.size W W') : PP g M a len cap O R4 N fl gl w W' b c b' c' gs Q :=
  h.past (hb.tcs (S := fun _ => False)) (h.cur.below hb) (fun k hk => hk.elim)
/-- And behind the copy of a function's statements. -/
structure QP (g M : Nat) (a : Option Addr) (len cap O R4 N fl gl : Nat) (w W : World) (b c b' c' : Nat) (gs : List Gl) (Q : List FV) (bb bn bc : Nat) (R : List SV) : Prop where
  pp : PP g M a len cap O R4 N fl gl w W b c b' c' gs Q
  br : BR (fun k => k < M ∨ w.heap.size ≤ k) N W (.slice (some ⟨bb, 0, none⟩) bn bc) R
  rl : R.length = bn ∧ 1 ≤ bn ∧ bn ≤ 10000
  es : ∀ x ∈ R, x.s.e.length ≤ 3000
  bne : bb ≠ O ∧ bb ≠ b ∧ bb ≠ b'
theorem QP.dr {g M : Nat} {a : Option Addr} {len cap O R4 N fl gl : Nat} {w W W' : World} {b c b' c' : Nat} {gs : List Gl} {Q : List FV} {bb bn bc : Nat} {R : List SV} (h : QP g M a len cap O R4 N fl gl w W b c b' c' gs Q bb bn bc R) (hd : Dr g a len cap (S0 g) W W') : QP g M a len cap O R4 N fl gl w W' b c b' c' gs Q bb bn bc R :=
  ⟨h.pp.dr hd, ⟨h.br.row.past hd.tcs (fun k hk => .inl (by have e : k = g := hk; have := h.pp.lo; omega)) (fun k hk e => by
    have e : k = g := e
    have := (h.br.rng k hk).1
    have := h.pp.lo
    omega), h.br.ok⟩, h.rl, h.es, h.bne⟩
theorem QP.cp {g M : Nat} {a : Option Addr} {len cap O R4 N fl gl : Nat} {w W : World} {b c b' c' : Nat} {gs : List Gl} {Q : List FV} {bb bn bc : Nat} {R : List SV} (h : QP g M a len cap O R4 N fl gl w W b c b' c' gs Q bb bn bc R) : CP g M a len cap O R4 N fl w W (.slice (some ⟨bb, 0, none⟩) bn bc) (.slice (some ⟨b, 0, none⟩) gl c) b' c' gs Q R := by
  obtain ⟨l0, l1, l2, l3, l4⟩ := h.pp.lo
  obtain ⟨q1, q2, q3, q4, q5, q6⟩ := h.pp.ln
  obtain ⟨r1, r2, r3⟩ := h.rl
  obtain ⟨e1, e2, e3⟩ := h.pp.ne
  obtain ⟨⟨s1, s2⟩, s3, s4⟩ := h.pp.rng
  refine ⟨h.pp.box, h.pp.res, h.pp.gr, h.pp.fr.less (fun k hk => by rcases hk with e | e; exact .inl e; exact .inr (by omega)), ⟨h.br.row.less (fun k hk => by rcases hk with e | e | e; exact .inl e; exact .inr (by omega); exact .inr (by omega)), h.br.ok⟩, ⟨q1, q3, by omega, by omega⟩, h.pp.gn, h.pp.cur, h.pp.tcs, ⟨e2, by omega, fun k hk => ?_, fun k hk => ?_⟩, ⟨l0, l1, l2, by omega⟩⟩
  · simp only [Value.ownBlock, Option.some.injEq] at hk
    omega
  · simp only [Value.ownBlock, Option.some.injEq] at hk
    have := h.bne
    omega
theorem PP.copy {g M : Nat} {a : Option Addr} {len cap O R4 N fl gl : Nat} {w W : World} {b c b' c' : Nat} {gs : List Gl} {Q : List FV} (h : PP g M a len cap O R4 N fl gl w W b c b' c' gs Q) (f : Nat) (hf : f < fl) (ty : TypeId) :
    ∃ ba bo bn bc, W.cell? ⟨b', f * 3 + 2, none⟩ = some (.slice (some ⟨ba, bo, none⟩) bn bc) ∧ (W.alloc (.cells #[] 88)).cell? ⟨b', f * 3 + 2, none⟩ = some (.slice (some ⟨ba, bo, none⟩) bn bc) ∧ ∃ bb cap' w', (Builtin.append_ #[59, 59] ty #[.slice (some ⟨W.heap.size, 0, none⟩) 0 0, .slice (some ⟨ba, bo, none⟩) bn bc]).run Tryz.prog (W.alloc (.cells #[] 88)) = .ok (.slice (some ⟨bb, 0, none⟩) bn cap') w' ∧ ∃ R, QP g M a len cap O R4 N fl gl w w' b c b' c' gs Q bb bn cap' R := by
  obtain ⟨l0, l1, l2, l3, l4⟩ := h.lo
  obtain ⟨q1, q2, q3, q4, q5, q6⟩ := h.ln
  obtain ⟨e1, e2, e3⟩ := h.ne
  obtain ⟨⟨s1, s2⟩, s3, s4⟩ := h.rng
  obtain ⟨i0, hi, hz0, hz1, hz2⟩ := info_parts info_stmt
  have hfQ : f < Q.length := by omega
  have hm : Q[f] ∈ Q := List.getElem_mem hfQ
  obtain ⟨o1, o2, -, o4⟩ := h.ob _ hm
  have hst := fun W' (hW' : Tcs (fun k => k < M ∨ w.heap.size ≤ k) W W') => h.fr.row.st W' (hW'.mono fun k hk => .inl hk) Q[f] hm
  obtain ⟨⟨va, vc, ev, -, -, hcell⟩, -⟩ := (hst W (Tcs.refl _ _)).2.1
  obtain ⟨ba, bo, rfl, -⟩ := hcell (by omega)
  have hrow : W.ownsRow N 61 3 (.slice (some ⟨b', 0, none⟩) fl c') fl (flatF Q) := by have := h.fr.row.row; rw [q1] at this; exact this
  have hc2 : W.cell? ⟨b', f * 3 + 2, none⟩ = some Q[f].vb := by
    rw [World.ownsRow.cellAt hrow (f * 3 + 2) (by omega), flatF_get Q f 2 hfQ (by omega)]
    rfl
  rw [ev] at hc2
  have hb0 : Below W.heap.size W (W.alloc (.cells #[] 88)) := (Below.refl _ _).alloc (Nat.le_refl _) _
  refine ⟨ba, bo, Q[f].R.length, vc, hc2, (World.cell?_alloc_past _ b' _ s4).trans hc2, ?_⟩
  have hs0 : (W.alloc (.cells #[] 88)).heap.size = W.heap.size + 1 := by simp
  have hn : N ≤ W.heap.size := by omega
  have hown : (W.alloc (.cells #[] 88)).ownsRow N 88 6 (.slice (some ⟨W.heap.size, 0, none⟩) 0 0) 0 [] := World.ownsRow_lit W #[] 0 hn (by decide) rfl
  have hcs : ∀ W', Tcs (fun k => k < M ∨ w.heap.size ≤ k) W W' → ∀ j u, (flatS Q[f].R)[j]? = some u → W'.cell? ((⟨ba, bo, none⟩ : Addr).add j) = some u := fun W' hW' j u hu => by
    obtain ⟨⟨va', vc', ev', -, -, hcell'⟩, -⟩ := (hst W' hW').2.1
    obtain ⟨ba', bo', e, hc'⟩ := hcell' (by omega)
    rw [ev] at ev'
    simp only [Value.slice.injEq] at ev'
    rw [e] at ev'
    simp only [Option.some.injEq, Addr.mk.injEq] at ev'
    obtain ⟨⟨rfl, rfl, -⟩, -, -⟩ := ev'
    rw [addrO]
    exact hc' j u hu
  obtain ⟨cap', w', r, hr, hb⟩ := app_new (P := Tryz.prog) N 59 ty 88 i0 _ 6 _ Tryz.underlying59 hi hz0 hz1 hz2 rfl (by decide) W.heap.size hown ⟨ba, bo, none⟩ Q[f].R.length vc (flatS Q[f].R) (flatS_len _) (hcs _ hb0.tcs) (flatS_one _ fun q hq => by
    have hp := (hst W (Tcs.refl _ _)).2.1.2 q hq
    exact ⟨hp.1.cell1, hp.2.cell1⟩) o1 (by omega) (by decide) (by omega)
  have hbw : Below W.heap.size W w' := hb0.trans (hb.mono (by omega))
  refine ⟨_, cap', w', r, Q[f].R, h.below hbw, ⟨⟨hr, fun W' hW' => ?_⟩, fun x hx => ?_⟩, ⟨rfl, o1, o2⟩, (fun x hx => by
    have e3 := (hst W (Tcs.refl _ _)).2.2
    exact o4 x.s (by rw [← e3]; exact List.mem_map.2 ⟨x, hx, rfl⟩)), ⟨by omega, by omega, by omega⟩⟩
  · exact (hst W' ((hbw.tcs (S := fun k => k < M ∨ w.heap.size ≤ k)).next hW' fun k hk => by
      rcases hk with hk | hk
      · exact .inl hk
      · simp only [Value.ownBlock, Option.some.injEq] at hk
        exact .inl (.inr (by omega)))).2.1.2
  · have e3 := (hst W (Tcs.refl _ _)).2.2
    exact (h.fr.ok _ hm).st x.s (by rw [← e3]; exact List.mem_map.2 ⟨x, hx, rfl⟩)
theorem pp_make {g M : Nat} {a : Option Addr} {len cap O R4 N fl gl : Nat} {w W0 Y : World} {b c b' c' fb foff : Nat} {vg vf : Value} {t : Tr} {Q : List FV} (hB : Below W0.heap.size W0 Y) (og : Y.ownsRow N 78 2 (.slice (some ⟨b, 0, none⟩) gl c) gl (gflat t.globals)) (of' : Y.ownsRow N 61 3 (.slice (some ⟨b', 0, none⟩) fl c') fl (flatF Q)) (hNO : N ≤ O) (hO : Y.heap[O]? = some (.cells #[.slice none 0 0, .slice none 0 0] 26 (0, 0))) (hNe : N = W0.heap.size) (hR4 : R4 = w.heap.size + 1) (hS0' : W0.heap.size = w.heap.size + 2) (hB0 : Below w.heap.size w W0) (hLo : Lo g a len (S0 g) w.heap.size) (h4 : FrC W0 R4 [.slice none 0 0, .slice none 0 0]) (hc0 : Cur g a len cap W0) (hTD : TD (fun k => k < M) w vg vf t) (hQ : Q.length = t.funcs.length ∧ Q.map (fun q : FV => q.f) = t.funcs)
    (hM : g < M ∧ M ≤ w.heap.size) (hQs : ∀ W, Tcs (fun k => k < M) w W → (∀ j u, (flatF Q)[j]? = some u → W.cell? ⟨fb, foff + j, none⟩ = some u) ∧ PtF Q W) (hgl : 1 ≤ gl ∧ gl ≤ 20) (hfl : 1 ≤ fl ∧ fl ≤ 20) (hgl' : gl = t.globals.length) (hfl' : fl = t.funcs.length) :
    FrC Y O [.slice none 0 0, .slice none 0 0] ∧ ∃ W1, W1 = (Y.setCell ⟨O, 0, none⟩ (.slice (some ⟨b, 0, none⟩) gl c)).setCell ⟨O, 1, none⟩ (.slice (some ⟨b', 0, none⟩) fl c') ∧ PP g M a len cap O R4 N fl gl w W1 b c b' c' t.globals Q := by
  have nbO : b ≠ O ∧ b' ≠ O := by
    obtain ⟨-, h | ⟨g1, cp1, cu1, e1, -, h1, -⟩⟩ := og
    · simp at h
    obtain ⟨-, h | ⟨g2, cp2, cu2, e2, -, h2, -⟩⟩ := of'
    · simp at h
    simp only [Value.slice.injEq, Option.some.injEq, Addr.mk.injEq] at e1 e2
    obtain ⟨⟨rfl, -, -⟩, -, -⟩ := e1
    obtain ⟨⟨rfl, -, -⟩, -, -⟩ := e2
    refine ⟨fun e => ?_, fun e => ?_⟩
    · rw [e, hO] at h1
      simp at h1
    · rw [e, hO] at h2
      simp at h2
  have hlO : O < Y.heap.size := (Array.getElem?_eq_some_iff.1 hO).1
  have fO : FrC Y O [.slice none 0 0, .slice none 0 0] := by
    intro j u hj
    have hz : Y.frozen? ⟨O, j, none⟩ = false := by
      unfold World.frozen?
      simp only [hO]
      simp
    have hcj : Y.cell? ⟨O, j, none⟩ = some u := by
      unfold World.cell?
      simp only [hO]
      match j with
      | 0 => simpa using hj
      | 1 => simpa using hj
      | j + 2 => simp at hj
    exact ⟨hcj, hz⟩
  obtain ⟨W1, hW1⟩ : ∃ W1, W1 = (Y.setCell ⟨O, 0, none⟩ (.slice (some ⟨b, 0, none⟩) gl c)).setCell ⟨O, 1, none⟩ (.slice (some ⟨b', 0, none⟩) fl c') := ⟨_, rfl⟩
  have hPP : PP g M a len cap O R4 N fl gl w W1 b c b' c' t.globals Q := by
    have tO : Tcs (fun k => k = O) Y W1 := by rw [hW1]; exact ((Tcs.refl (fun k => k = O) Y).setCell (p := ⟨O, 0, none⟩) rfl _).setCell (p := ⟨O, 1, none⟩) rfl _
    have hgw := hLo.gl
    have hwY : Below w.heap.size w Y := hB0.trans (hB.mono hB0.size)
    have hY : W0.heap.size ≤ Y.heap.size := hB.size
    have og1 := own_not og tO (fun k hk e => by simp only [Value.ownBlock, Option.some.injEq] at hk; have e : k = O := e; exact nbO.1 (hk.trans e))
    have of1 := own_not of' tO (fun k hk e => by simp only [Value.ownBlock, Option.some.injEq] at hk; have e : k = O := e; exact nbO.2 (hk.trans e))
    have nbb : b ≠ b' := by
      intro e
      subst e
      obtain ⟨-, h | ⟨g1, cp1, cu1, e1, -, h1, -⟩⟩ := og
      · simp at h
      obtain ⟨-, h | ⟨g2, cp2, cu2, e2, -, h2, -⟩⟩ := of'
      · simp at h
      simp only [Value.slice.injEq, Option.some.injEq, Addr.mk.injEq] at e1 e2
      obtain ⟨⟨rfl, -, -⟩, -, -⟩ := e1
      obtain ⟨⟨rfl, -, -⟩, -, -⟩ := e2
      rw [h1] at h2
      simp at h2
    refine ⟨by rw [hW1]; exact (fO.set 0 _).set 1 _, (h4.below hB).tcs (by omega) tO (by omega), by rw [hgl'] at og1; rw [hgl']; exact og1, ⟨⟨by rw [hQ.1, ← hfl']; exact of1, fun W hW => ?_⟩, fun x hx => (hTD.ok x.f (by rw [← hQ.2]; exact List.mem_map.2 ⟨x, hx, rfl⟩)).two⟩, ⟨by omega, hfl.1, hfl.2, hgl'.symm, hgl.1, hgl.2⟩, hTD.gn, fun x hx => ?_, ?_, ?_, ⟨fun e => nbO.1 e.symm, fun e => nbO.2 e.symm, nbb⟩, ⟨hM, by omega, by omega, hNO, Nat.lt_of_lt_of_le hlO tO.size⟩⟩
    · exact (hQs W ((hwY.tcs (S := fun k => k < M)).next (tO.mono (T := fun k => w.heap.size ≤ k) fun k hk => by omega) (fun k hk => .inr hk) |>.next hW (fun k hk => by
        rcases hk with (hk | hk) | hk
        · exact .inl hk
        · exact .inr hk
        · simp only [Value.ownBlock, Option.some.injEq] at hk
          have := (World.ownsRow.lt of1 b' rfl).1
          exact .inr (by omega)))).2
    · have k := hTD.ok x.f (by rw [← hQ.2]; exact List.mem_map.2 ⟨x, hx, rfl⟩)
      have e := ((hQs w (Tcs.refl _ _)).2 x hx).2.2
      have k1 := k.bl
      have k2 := k.bu
      rw [← e, List.length_map] at k1 k2
      exact ⟨k1, k2, k.pl, fun s hs => (k.st s hs).1.1⟩
    · exact (hc0.below hB).new hLo tO (fun k hk => by omega)
    · exact (hwY.tcs (S := S0 g)).next tO (fun k hk => .inr (by omega))
  exact ⟨fO, W1, hW1, hPP⟩
end
end Go.Proofs.YtjhmgjimppflhaaGreatDoor
