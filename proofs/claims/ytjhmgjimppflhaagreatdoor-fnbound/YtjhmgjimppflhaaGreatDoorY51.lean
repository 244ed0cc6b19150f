import Derived.Test.YtjhmgjimppflhaaGreatDoorY50
import Derived.Test.YtjhmgjimppflhaaGreatDoorY24
import Derived.Deep.Cut
import Derived.Deep.CutRange
set_option linter.unusedSectionVars false
variable [Inhabited Go.Proofs.YtjhmgjimppflhaaGreatDoor.Pick]
namespace Go.Proofs.YtjhmgjimppflhaaGreatDoor
set_option linter.unusedVariables false
set_option linter.unusedSimpArgs false
set_option maxRecDepth 100000
set_option maxHeartbeats 16000000
section
open Go.RowKit
theorem app_new {P : Program} {w : World} (base : Nat) (t ty e : TypeId) (i : TypeInfo) (z : Value) (size bytes : Nat) (ht : P.underlying t = some (.slice e)) (hi : P.info? e = some i) (hz : i.zero = some z)
  (hsize : i.size = size) (hby : i.bytes = bytes) (hzs : z.cells.size = size) (hsz : 0 < size) (b : Nat) (hown : w.ownsRow base e size (.slice (some ⟨b, 0, none⟩) 0 0) 0 [])
  (a : Addr) (m c : Nat) (us : List Value) (hl : us.length = m * size) (hc : ∀ j u, us[j]? = some u → w.cell? (a.add j) = some u) (h1 : ∀ u ∈ us, u.oneCell' = true)
  (hm1 : 1 ≤ m) (hm : m ≤ 10000000) (hbb : bytes ≤ 1000) (hbase : base ≤ w.heap.size) :
  ∃ cap w', (Builtin.append_ #[t, t] ty #[.slice (some ⟨b, 0, none⟩) 0 0, .slice (some a) m c]).run P w = .ok (.slice (some ⟨w.heap.size, 0, none⟩) m cap) w' ∧ w'.ownsRow base e size (.slice (some ⟨w.heap.size, 0, none⟩) m cap) m us ∧ Below w.heap.size w w' := by
 obtain ⟨v', w', r1, r2, -, -⟩ := run_appG (P := P) (w := w) base t ty e i z size bytes ht hi hz hsize hby hzs hsz _ 0 [] hown (some a) m c us (fun e => by cases e) hl (fun ad had => by cases had; exact hc) h1 (by omega) hbb hbase
 have hbytes : (0 + m) * bytes ≤ 140737488355328 := by
  have : (0 + m) * bytes ≤ 10000000 * 1000 := Nat.mul_le_mul (by omega) hbb
  omega
 have hr := run_append_grow (P := P) (w := w) t ty e i z ht hi hz ⟨b, 0, none⟩ 0 0 [] (by simp) (fun j v h => by simp at h) a m c us (by rw [hsize]; exact hl) hc (by omega) (by omega) (by rw [hby]; exact growslice_fits (by omega) (by omega))
 rw [r1] at hr
 simp only [Result.ok.injEq, Nat.zero_add] at hr
 obtain ⟨rfl, rfl⟩ := hr
 refine ⟨_, _, r1, by simpa using r2, ((Below.refl _ _).drew).alloc (by simp) _⟩
theorem info_glob : (Tryz.prog.info? 78).map (fun i => (i.zero, i.size, i.bytes)) = some (some (.agg #[.string ⟨#[]⟩, .int .i64 0]), 2, 24) := by kernel_rfl
theorem globs_cells {w : World} {v : Value} {gs : List Gl} (h : Globs w v gs) (hp : 0 < gs.length) : ∃ ad c, v = .slice (some ad) gs.length c ∧ ∀ j u, (gflat gs)[j]? = some u → w.cell? (ad.add j) = some u := by
 obtain ⟨a, cap, rfl, -, -, h⟩ := h
 obtain ⟨b, off, rfl, hc⟩ := h hp
 refine ⟨⟨b, off, none⟩, cap, rfl, fun j u hu => ?_⟩
 have hj : j < gs.length * 2 := by rw [← gflat_len]; exact (List.getElem?_eq_some_iff.1 hu).1
 have e : j = j / 2 * 2 + j % 2 := by omega
 have hlt : j / 2 < gs.length := by omega
 obtain ⟨c0, c1⟩ := hc (j / 2) hlt
 have hg := gflat_get gs (j / 2) (j % 2) hlt (by omega)
 rw [← e, hu] at hg
 rw [addrO]
 have h2 : j % 2 = 0 ∨ j % 2 = 1 := by omega
 rcases h2 with h2 | h2
 ·rw [h2] at hg e
  simp [gcl] at hg
  rw [e, hg]
  exact c0
 ·rw [h2] at hg e
  simp [gcl] at hg
  rw [e, ← Nat.add_assoc, hg]
  exact c1
end
section
open Go.RowKit
structure PP (g M : Nat) (a : Option Addr) (len cap O R4 N fl gl : Nat) (w W : World) (b c b' c' : Nat) (gs : List Gl) (Q : List FV) : Prop where
 box : FrC W O [.slice (some ⟨b, 0, none⟩) gl c, .slice (some ⟨b', 0, none⟩) fl c']
 res : FrC W R4 [.slice none 0 0, .slice none 0 0]
 gr : GR N W (.slice (some ⟨b, 0, none⟩) gl c) gs
 fr : F2 (fun k => k < M ∨ w.heap.size ≤ k) N W (.slice (some ⟨b', 0, none⟩) fl c') Q
 ln : Q.length = fl ∧ 1 ≤ fl ∧ fl ≤ 20 ∧ gs.length = gl ∧ 1 ≤ gl ∧ gl ≤ 20
 gn : ∀ x ∈ gs, x.name.size ≤ 100000
 ob : ∀ x ∈ Q, 1 ≤ x.R.length ∧ x.R.length ≤ 10000 ∧ x.f.params.length ≤ 20 ∧ ∀ s ∈ x.f.body, s.e.length ≤ 3000
 cur : Cur g a len cap W
 tcs : Tcs (S0 g) w W
 ne : O ≠ b ∧ O ≠ b' ∧ b ≠ b'
 lo : (g < M ∧ M ≤ w.heap.size) ∧ w.heap.size ≤ R4 ∧ R4 < N ∧ N ≤ O ∧ O < W.heap.size
theorem PP.past {g M : Nat} {a : Option Addr} {len cap O R4 N fl gl : Nat} {w W W' : World} {b c b' c' : Nat} {gs : List Gl} {Q : List FV} {S : Nat → Prop} (h : PP g M a len cap O R4 N fl gl w W b c b' c' gs Q) (ht : Tcs S W W') (hc : Cur g a len cap W') (hS : ∀ k, S k → (k = g ∨ w.heap.size ≤ k) ∧ k ≠ O ∧ k ≠ R4 ∧ k ≠ b ∧ k ≠ b') : PP g M a len cap O R4 N fl gl w W' b c b' c' gs Q := by
 obtain ⟨l0, l1, l2, l3, l4⟩ := h.lo
 have hRl4 : R4 < W.heap.size := by omega
 refine ⟨h.box.tcs l4 ht (fun e => (hS _ e).2.1 rfl), h.res.tcs hRl4 ht (fun e => (hS _ e).2.2.1 rfl), own_not h.gr ht (fun k hk e => ?_), ⟨h.fr.row.past ht (fun k hk => (hS k hk).1.imp (fun e => by omega) id) (fun k hk e => ?_), h.fr.ok⟩, h.ln, h.gn, h.ob, hc, h.tcs.next ht (fun k hk => (hS k hk).1), h.ne, ⟨l0, l1, l2, l3, by have := ht.size; omega⟩⟩
 ·simp only [Value.ownBlock, Option.some.injEq] at hk
  exact (hS _ e).2.2.2.1 hk.symm
 ·simp only [Value.ownBlock, Option.some.injEq] at hk
  exact (hS _ e).2.2.2.2 hk.symm
theorem PP.rng {g M : Nat} {a : Option Addr} {len cap O R4 N fl gl : Nat} {w W : World} {b c b' c' : Nat} {gs : List Gl} {Q : List FV} (h : PP g M a len cap O R4 N fl gl w W b c b' c' gs Q) : (N ≤ b ∧ b < W.heap.size) ∧ (N ≤ b' ∧ b' < W.heap.size) := ⟨World.ownsRow.lt h.gr b rfl, h.fr.rng b' rfl⟩
theorem PP.dr {g M : Nat} {a : Option Addr} {len cap O R4 N fl gl : Nat} {w W W' : World} {b c b' c' : Nat} {gs : List Gl} {Q : List FV} (h : PP g M a len cap O R4 N fl gl w W b c b' c' gs Q) (hd : Dr g a len cap (S0 g) W W') : PP g M a len cap O R4 N fl gl w W' b c b' c' gs Q :=
 h.past hd.tcs hd.cur (fun k hk => by
  have e : k = g := hk
  have := h.rng
  have := h.lo
  exact ⟨.inl e, by omega, by omega, by omega, by omega⟩)
theorem PP.below {g M : Nat} {a : Option Addr} {len cap O R4 N fl gl : Nat} {w W W' : World} {b c b' c' : Nat} {gs : List Gl} {Q : List FV} (h : PP g M a len cap O R4 N fl gl w W b c b' c' gs Q) (hb : Below W.heap.size W W') : PP g M a len cap O R4 N fl gl w W' b c b' c' gs Q :=
 h.past (hb.tcs (S := fun _ => False)) (h.cur.below hb) (fun k hk => hk.elim)
structure QP (g M : Nat) (a : Option Addr) (len cap O R4 N fl gl : Nat) (w W : World) (b c b' c' : Nat) (gs : List Gl) (Q : List FV) (bb bn bc : Nat) (R : List SV) : Prop where
 pp : PP g M a len cap O R4 N fl gl w W b c b' c' gs Q
 br : BR (fun k => k < M ∨ w.heap.size ≤ k) N W (.slice (some ⟨bb, 0, none⟩) bn bc) R
 rl : R.length = bn ∧ 1 ≤ bn ∧ bn ≤ 10000
 es : ∀ x ∈ R, x.s.e.length ≤ 3000
 bne : bb ≠ O ∧ bb ≠ b ∧ bb ≠ b'
theorem QP.dr {g M : Nat} {a : Option Addr} {len cap O R4 N fl gl : Nat} {w W W' : World} {b c b' c' : Nat} {gs : List Gl} {Q : List FV} {bb bn bc : Nat} {R : List SV} (h : QP g M a len cap O R4 N fl gl w W b c b' c' gs Q bb bn bc R) (hd : Dr g a len cap (S0 g) W W') : QP g M a len cap O R4 N fl gl w W' b c b' c' gs Q bb bn bc R :=
 ⟨h.pp.dr hd, ⟨h.br.row.past hd.tcs (fun k hk => .inl (by have e : k = g := hk; have := h.pp.lo; omega)) (fun k hk e => by
   have e : k = g := e
   have := (h.br.rng k hk).1
   have := h.pp.lo
   omega), h.br.ok⟩, h.rl, h.es, h.bne⟩
theorem QP.cp {g M : Nat} {a : Option Addr} {len cap O R4 N fl gl : Nat} {w W : World} {b c b' c' : Nat} {gs : List Gl} {Q : List FV} {bb bn bc : Nat} {R : List SV} (h : QP g M a len cap O R4 N fl gl w W b c b' c' gs Q bb bn bc R) : CP g M a len cap O R4 N fl w W (.slice (some ⟨bb, 0, none⟩) bn bc) (.slice (some ⟨b, 0, none⟩) gl c) b' c' gs Q R := by
 obtain ⟨l0, l1, l2, l3, l4⟩ := h.pp.lo
 obtain ⟨q1, q2, q3, q4, q5, q6⟩ := h.pp.ln
 obtain ⟨r1, r2, r3⟩ := h.rl
 obtain ⟨e1, e2, e3⟩ := h.pp.ne
 obtain ⟨⟨s1, s2⟩, s3, s4⟩ := h.pp.rng
 refine ⟨h.pp.box, h.pp.res, h.pp.gr, h.pp.fr.less (fun k hk => by rcases hk with e | e; exact .inl e; exact .inr (by omega)), ⟨h.br.row.less (fun k hk => by rcases hk with e | e | e; exact .inl e; exact .inr (by omega); exact .inr (by omega)), h.br.ok⟩, ⟨q1, q3, by omega, by omega⟩, h.pp.gn, h.pp.cur, h.pp.tcs, ⟨e2, by omega, fun k hk => ?_, fun k hk => ?_⟩, ⟨l0, l1, l2, by omega⟩⟩
 ·simp only [Value.ownBlock, Option.some.injEq] at hk
  omega
 ·simp only [Value.ownBlock, Option.some.injEq] at hk
  have := h.bne
  omega
theorem PP.copy {g M : Nat} {a : Option Addr} {len cap O R4 N fl gl : Nat} {w W : World} {b c b' c' : Nat} {gs : List Gl} {Q : List FV} (h : PP g M a len cap O R4 N fl gl w W b c b' c' gs Q) (f : Nat) (hf : f < fl) (ty : TypeId) :
  ∃ ba bo bn bc, W.cell? ⟨b', f * 3 + 2, none⟩ = some (.slice (some ⟨ba, bo, none⟩) bn bc) ∧ (W.alloc (.cells #[] 88)).cell? ⟨b', f * 3 + 2, none⟩ = some (.slice (some ⟨ba, bo, none⟩) bn bc) ∧ ∃ bb cap' w', (Builtin.append_ #[59, 59] ty #[.slice (some ⟨W.heap.size, 0, none⟩) 0 0, .slice (some ⟨ba, bo, none⟩) bn bc]).run Tryz.prog (W.alloc (.cells #[] 88)) = .ok (.slice (some ⟨bb, 0, none⟩) bn cap') w' ∧ ∃ R, QP g M a len cap O R4 N fl gl w w' b c b' c' gs Q bb bn cap' R := by
 obtain ⟨l0, l1, l2, l3, l4⟩ := h.lo
 obtain ⟨q1, q2, q3, q4, q5, q6⟩ := h.ln
 obtain ⟨e1, e2, e3⟩ := h.ne
 obtain ⟨⟨s1, s2⟩, s3, s4⟩ := h.rng
 obtain ⟨i0, hi, hz0, hz1, hz2⟩ := info_parts info_stmt
 have hfQ : f < Q.length := by omega
 have hm : Q[f] ∈ Q := List.getElem_mem hfQ
 obtain ⟨o1, o2, -, o4⟩ := h.ob _ hm
 have hst := fun W' (hW' : Tcs (fun k => k < M ∨ w.heap.size ≤ k) W W') => h.fr.row.st W' (hW'.mono fun k hk => .inl hk) Q[f] hm
 obtain ⟨⟨va, vc, ev, -, -, hcell⟩, -⟩ := (hst W (Tcs.refl _ _)).2.1
 obtain ⟨ba, bo, rfl, -⟩ := hcell (by omega)
 have hrow : W.ownsRow N 61 3 (.slice (some ⟨b', 0, none⟩) fl c') fl (flatF Q) := by have := h.fr.row.row; rw [q1] at this; exact this
 have hc2 : W.cell? ⟨b', f * 3 + 2, none⟩ = some Q[f].vb := by
  rw [World.ownsRow.cellAt hrow (f * 3 + 2) (by omega), flatF_get Q f 2 hfQ (by omega)]
  rfl
 rw [ev] at hc2
 have hb0 : Below W.heap.size W (W.alloc (.cells #[] 88)) := (Below.refl _ _).alloc (Nat.le_refl _) _
 refine ⟨ba, bo, Q[f].R.length, vc, hc2, (World.cell?_alloc_past _ b' _ s4).trans hc2, ?_⟩
 have hs0 : (W.alloc (.cells #[] 88)).heap.size = W.heap.size + 1 := by simp
 have hn : N ≤ W.heap.size := by omega
 have hown : (W.alloc (.cells #[] 88)).ownsRow N 88 6 (.slice (some ⟨W.heap.size, 0, none⟩) 0 0) 0 [] := World.ownsRow_lit W #[] 0 hn (by decide) rfl
 have hcs : ∀ W', Tcs (fun k => k < M ∨ w.heap.size ≤ k) W W' → ∀ j u, (flatS Q[f].R)[j]? = some u → W'.cell? ((⟨ba, bo, none⟩ : Addr).add j) = some u := fun W' hW' j u hu => by
  obtain ⟨⟨va', vc', ev', -, -, hcell'⟩, -⟩ := (hst W' hW').2.1
  obtain ⟨ba', bo', e, hc'⟩ := hcell' (by omega)
  rw [ev] at ev'
  simp only [Value.slice.injEq] at ev'
  rw [e] at ev'
  simp only [Option.some.injEq, Addr.mk.injEq] at ev'
  obtain ⟨⟨rfl, rfl, -⟩, -, -⟩ := ev'
  rw [addrO]
  exact hc' j u hu
 obtain ⟨cap', w', r, hr, hb⟩ := app_new (P := Tryz.prog) N 59 ty 88 i0 _ 6 _ Tryz.underlying59 hi hz0 hz1 hz2 rfl (by decide) W.heap.size hown ⟨ba, bo, none⟩ Q[f].R.length vc (flatS Q[f].R) (flatS_len _) (hcs _ hb0.tcs) (flatS_one _ fun q hq => by
  have hp := (hst W (Tcs.refl _ _)).2.1.2 q hq
  exact ⟨hp.1.cell1, hp.2.cell1⟩) o1 (by omega) (by decide) (by omega)
 have hbw : Below W.heap.size W w' := hb0.trans (hb.mono (by omega))
 refine ⟨_, cap', w', r, Q[f].R, h.below hbw, ⟨⟨hr, fun W' hW' => ?_⟩, fun x hx => ?_⟩, ⟨rfl, o1, o2⟩, (fun x hx => by
  have e3 := (hst W (Tcs.refl _ _)).2.2
  exact o4 x.s (by rw [← e3]; exact List.mem_map.2 ⟨x, hx, rfl⟩)), ⟨by omega, by omega, by omega⟩⟩
 ·exact (hst W' ((hbw.tcs (S := fun k => k < M ∨ w.heap.size ≤ k)).next hW' fun k hk => by
   rcases hk with hk | hk
   ·exact .inl hk
   ·simp only [Value.ownBlock, Option.some.injEq] at hk
    exact .inl (.inr (by omega)))).2.1.2
 ·have e3 := (hst W (Tcs.refl _ _)).2.2
  exact (h.fr.ok _ hm).st x.s (by rw [← e3]; exact List.mem_map.2 ⟨x, hx, rfl⟩)
theorem pp_make {g M : Nat} {a : Option Addr} {len cap O R4 N fl gl : Nat} {w W0 Y : World} {b c b' c' fb foff : Nat} {vg vf : Value} {t : Tr} {Q : List FV} (hB : Below W0.heap.size W0 Y) (og : Y.ownsRow N 78 2 (.slice (some ⟨b, 0, none⟩) gl c) gl (gflat t.globals)) (of' : Y.ownsRow N 61 3 (.slice (some ⟨b', 0, none⟩) fl c') fl (flatF Q)) (hNO : N ≤ O) (hO : Y.heap[O]? = some (.cells #[.slice none 0 0, .slice none 0 0] 26 (0, 0))) (hNe : N = W0.heap.size) (hR4 : R4 = w.heap.size + 1) (hS0' : W0.heap.size = w.heap.size + 2) (hB0 : Below w.heap.size w W0) (hLo : Lo g a len (S0 g) w.heap.size) (h4 : FrC W0 R4 [.slice none 0 0, .slice none 0 0]) (hc0 : Cur g a len cap W0) (hTD : TD (fun k => k < M) w vg vf t) (hQ : Q.length = t.funcs.length ∧ Q.map (fun q : FV => q.f) = t.funcs)
  (hM : g < M ∧ M ≤ w.heap.size) (hQs : ∀ W, Tcs (fun k => k < M) w W → (∀ j u, (flatF Q)[j]? = some u → W.cell? ⟨fb, foff + j, none⟩ = some u) ∧ PtF Q W) (hgl : 1 ≤ gl ∧ gl ≤ 20) (hfl : 1 ≤ fl ∧ fl ≤ 20) (hgl' : gl = t.globals.length) (hfl' : fl = t.funcs.length) :
  FrC Y O [.slice none 0 0, .slice none 0 0] ∧ ∃ W1, W1 = (Y.setCell ⟨O, 0, none⟩ (.slice (some ⟨b, 0, none⟩) gl c)).setCell ⟨O, 1, none⟩ (.slice (some ⟨b', 0, none⟩) fl c') ∧ PP g M a len cap O R4 N fl gl w W1 b c b' c' t.globals Q := by
 have nbO : b ≠ O ∧ b' ≠ O := by
  obtain ⟨-, h | ⟨g1, cp1, cu1, e1, -, h1, -⟩⟩ := og
  ·simp at h
  obtain ⟨-, h | ⟨g2, cp2, cu2, e2, -, h2, -⟩⟩ := of'
  ·simp at h
  simp only [Value.slice.injEq, Option.some.injEq, Addr.mk.injEq] at e1 e2
  obtain ⟨⟨rfl, -, -⟩, -, -⟩ := e1
  obtain ⟨⟨rfl, -, -⟩, -, -⟩ := e2
  refine ⟨fun e => ?_, fun e => ?_⟩
  ·rw [e, hO] at h1
   simp at h1
  ·rw [e, hO] at h2
   simp at h2
 have hlO : O < Y.heap.size := (Array.getElem?_eq_some_iff.1 hO).1
 have fO : FrC Y O [.slice none 0 0, .slice none 0 0] := by
  intro j u hj
  have hz : Y.frozen? ⟨O, j, none⟩ = false := by
   unfold World.frozen?
   simp only [hO]
   simp
  have hcj : Y.cell? ⟨O, j, none⟩ = some u := by
   unfold World.cell?
   simp only [hO]
   match j with
   | 0 => simpa using hj
   | 1 => simpa using hj
   | j + 2 => simp at hj
  exact ⟨hcj, hz⟩
 obtain ⟨W1, hW1⟩ : ∃ W1, W1 = (Y.setCell ⟨O, 0, none⟩ (.slice (some ⟨b, 0, none⟩) gl c)).setCell ⟨O, 1, none⟩ (.slice (some ⟨b', 0, none⟩) fl c') := ⟨_, rfl⟩
 have hPP : PP g M a len cap O R4 N fl gl w W1 b c b' c' t.globals Q := by
  have tO : Tcs (fun k => k = O) Y W1 := by rw [hW1]; exact ((Tcs.refl (fun k => k = O) Y).setCell (p := ⟨O, 0, none⟩) rfl _).setCell (p := ⟨O, 1, none⟩) rfl _
  have hgw := hLo.gl
  have hwY : Below w.heap.size w Y := hB0.trans (hB.mono hB0.size)
  have hY : W0.heap.size ≤ Y.heap.size := hB.size
  have og1 := own_not og tO (fun k hk e => by simp only [Value.ownBlock, Option.some.injEq] at hk; have e : k = O := e; exact nbO.1 (hk.trans e))
  have of1 := own_not of' tO (fun k hk e => by simp only [Value.ownBlock, Option.some.injEq] at hk; have e : k = O := e; exact nbO.2 (hk.trans e))
  have nbb : b ≠ b' := by
   intro e
   subst e
   obtain ⟨-, h | ⟨g1, cp1, cu1, e1, -, h1, -⟩⟩ := og
   ·simp at h
   obtain ⟨-, h | ⟨g2, cp2, cu2, e2, -, h2, -⟩⟩ := of'
   ·simp at h
   simp only [Value.slice.injEq, Option.some.injEq, Addr.mk.injEq] at e1 e2
   obtain ⟨⟨rfl, -, -⟩, -, -⟩ := e1
   obtain ⟨⟨rfl, -, -⟩, -, -⟩ := e2
   rw [h1] at h2
   simp at h2
  refine ⟨by rw [hW1]; exact (fO.set 0 _).set 1 _, (h4.below hB).tcs (by omega) tO (by omega), by rw [hgl'] at og1; rw [hgl']; exact og1, ⟨⟨by rw [hQ.1, ← hfl']; exact of1, fun W hW => ?_⟩, fun x hx => (hTD.ok x.f (by rw [← hQ.2]; exact List.mem_map.2 ⟨x, hx, rfl⟩)).two⟩, ⟨by omega, hfl.1, hfl.2, hgl'.symm, hgl.1, hgl.2⟩, hTD.gn, fun x hx => ?_, ?_, ?_, ⟨fun e => nbO.1 e.symm, fun e => nbO.2 e.symm, nbb⟩, ⟨hM, by omega, by omega, hNO, Nat.lt_of_lt_of_le hlO tO.size⟩⟩
  ·exact (hQs W ((hwY.tcs (S := fun k => k < M)).next (tO.mono (T := fun k => w.heap.size ≤ k) fun k hk => by omega) (fun k hk => .inr hk) |>.next hW (fun k hk => by
    rcases hk with (hk | hk) | hk
    ·exact .inl hk
    ·exact .inr hk
    ·simp only [Value.ownBlock, Option.some.injEq] at hk
     have := (World.ownsRow.lt of1 b' rfl).1
     exact .inr (by omega)))).2
  ·have k := hTD.ok x.f (by rw [← hQ.2]; exact List.mem_map.2 ⟨x, hx, rfl⟩)
   have e := ((hQs w (Tcs.refl _ _)).2 x hx).2.2
   have k1 := k.bl
   have k2 := k.bu
   rw [← e, List.length_map] at k1 k2
   exact ⟨k1, k2, k.pl, fun s hs => (k.st s hs).1.1⟩
  ·exact (hc0.below hB).new hLo tO (fun k hk => by omega)
  ·exact (hwY.tcs (S := S0 g)).next tO (fun k hk => .inr (by omega))
 exact ⟨fO, W1, hW1, hPP⟩
end
end Go.Proofs.YtjhmgjimppflhaaGreatDoor
