import Derived.Test.YtjhmgjimppflhaaGreatDoorZ24
namespace Go.Proofs.YtjhmgjimppflhaaGreatDoor
set_option linter.unusedVariables false
set_option linter.unusedSimpArgs false
set_option maxRecDepth 100000
set_option maxHeartbeats 16000000
section
open Go.RowKit
/-- The blocks that may turn while main's body is drawn. -/
def S4 (g T q I : Nat) (v : Value) : Nat → Prop := fun k => k = g ∨ k = T ∨ k = q ∨ k = I ∨ v.ownBlock = some k
theorem gs_main {g : Nat} {a : Option Addr} {len cap T q : Nat} {wr : World} {vF : Value} {ca pa : Option Addr} {cn cc pn pc : Nat} {cs : List ByteArray} {ps : List Int}
    (hst : ∀ W, Tcs (Sv (Sx g T q) vF) wr W → Strs W (.slice ca cn cc) cs ∧ Ints W (.slice pa pn pc) ps) (hl : ps.length = cs.length ∧ cs.length ≤ 4) (hpb : (∀ x ∈ ps, 0 ≤ x ∧ x ≤ 6) ∧ ∀ x ∈ cs, x.size ≤ 100000)
    (hcu : Cur g a len cap wr) (hne : g < T ∧ T < wr.heap.size ∧ g < q ∧ q < wr.heap.size) (hL : Lo g a len (S0 g) T) (hTq : T < q) (hv : ∀ k, vF.ownBlock = some k → q < k ∧ k < wr.heap.size) :
    GS g a len cap wr.heap.size (S4 g T q wr.heap.size vF) (wr.alloc (.cells #[.slice ca cn cc, .slice pa pn pc, .slice none 0 0, .slice none 0 0, .int .i64 0] 80)) ⟨.slice ca cn cc, .slice pa pn pc, .slice none 0 0, .slice none 0 0, 0, cs, ps, [], []⟩ 10 := by
  have hf := box_fr wr #[.slice ca cn cc, .slice pa pn pc, .slice none 0 0, .slice none 0 0, .int .i64 0] 80 (by simp)
  have hs : (wr.alloc (.cells #[.slice ca cn cc, .slice pa pn pc, .slice none 0 0, .slice none 0 0, .int .i64 0] 80)).heap.size = wr.heap.size + 1 := by simp
  refine ⟨hcu.alloc _, ⟨(hf 0 _ rfl).1, (hf 1 _ rfl).1, (hf 2 _ rfl).1, (hf 3 _ rfl).1, (hf 4 _ rfl).1, fun j => by simp⟩, ?_, ⟨by omega, .inl rfl, fun b off x y => ?_, fun k hk => ?_⟩, .inr (.inr (.inr (.inl rfl))), by omega⟩
  · have key : ∀ W, Tcs (S4 g T q wr.heap.size vF) (wr.alloc (.cells #[.slice ca cn cc, .slice pa pn pc, .slice none 0 0, .slice none 0 0, .int .i64 0] 80)) W → Tcs (Sv (Sx g T q) vF) wr W := fun W hW => ((Tcs.refl (Sv (Sx g T q) vF) wr).alloc _).next hW fun k hk => by
      rcases hk with h | h | h | h | h
      · exact .inl (.inl (.inl h))
      · exact .inl (.inl (.inr (.inl h)))
      · exact .inl (.inl (.inr (.inr h)))
      · exact .inr (by omega)
      · exact .inl (.inr h)
    have nil : ∀ W, Strs W (.slice none 0 0) [] := fun W => ⟨none, 0, rfl, Nat.le_refl _, by omega, fun h => absurd h (Nat.lt_irrefl _)⟩
    exact ⟨fun W hW => (hst W (key W hW)).1, fun W hW => (hst W (key W hW)).2, fun W _ => nil W, fun W _ => nil W, hl.1, by show cs.length ≤ 10; omega, hpb.1, ⟨hpb.2, (fun x hx => by cases hx), (fun x hx => by cases hx)⟩, Nat.zero_le _, Nat.zero_le _, by show (0 : Int) ≤ 0 ∧ (0 : Int) ≤ 10; omega⟩
  · have h8 := hL.by8 b off x y
    refine ⟨by omega, fun e => ?_⟩
    rcases e with h | h | h | h | h
    · exact h8.2 h
    · omega
    · omega
    · omega
    · have := (hv b h).1; omega
  · rcases hk with h | h | h | h | h
    · omega
    · omega
    · omega
    · omega
    · have := (hv k h).2; omega
/-- A function put ahead of the others. -/
theorem front_step {g : Nat} {a : Option Addr} {len cap T B M : Nat} {nm : ByteArray} {vG : Value} {fa ba : Option Addr} {fn fc bn bc : Nat} {W16 : World} {Q : List FV} {R' : List SV} {L : Nat}
    (hT : FrC W16 T [vG, .slice fa fn fc]) (hfr : FR (fun k => k < M) M W16 (.slice fa fn fc) Q) (hQ : Q.length ≤ 10) (hcu : Cur g a len cap W16) (hne : g < T ∧ T < M ∧ M ≤ W16.heap.size) (hL : Lo g a len (S0 g) T) (hn : nm.size ≤ 100000) (hr : SR B W16 (.slice ba bn bc) R' L) (hL2 : 1 ≤ R'.length ∧ L ≤ 1000) (hMB : M ≤ B) :
    ∃ va vn vc w17, (Builtin.append_ #[24, 24] 24 #[.slice (some ⟨W16.heap.size, 0, none⟩) 1 1, .slice fa fn fc]).run Tryz.prog (W16.alloc (.cells #[.string nm, .slice none 0 0, .slice ba bn bc] 61)) = .ok (.slice va vn vc) w17 ∧ (w17.cell? ⟨T, 1, none⟩ = some (.slice fa fn fc) ∧ w17.frozen? ⟨T, 1, none⟩ = false) ∧ FrC (w17.setCell ⟨T, 1, none⟩ (.slice va vn vc)) T [vG, .slice va vn vc] ∧ (∃ Q', FR (fun k => k < M) M (w17.setCell ⟨T, 1, none⟩ (.slice va vn vc)) (.slice va vn vc) Q' ∧ Q'.length = Q.length + 1) ∧ Cur g a len cap (w17.setCell ⟨T, 1, none⟩ (.slice va vn vc)) ∧ Tcs (fun b => b = T) W16 (w17.setCell ⟨T, 1, none⟩ (.slice va vn vc)) := by
  obtain ⟨o, hoo⟩ : ∃ o : Obj, o = .cells #[.string nm, .slice none 0 0, .slice ba bn bc] 61 := ⟨_, rfl⟩
  have hb : Below W16.heap.size W16 (W16.alloc o) := (Below.refl _ _).alloc (Nat.le_refl _) _
  have hok : okFn ⟨nm, [], R'.map (·.s)⟩ := ⟨hn, by show (0 : Nat) ≤ 20; omega, (fun p hp => by cases hp), by show 1 ≤ (R'.map (·.s)).length; simp; omega, by show (R'.map (·.s)).length ≤ 10000; have := hr.len; simp; omega, hr.ok.body⟩
  have hlit : FR (fun k => k < M) M (W16.alloc o) (.slice (some ⟨W16.heap.size, 0, none⟩) 1 1) [⟨⟨nm, [], R'.map (·.s)⟩, .slice none 0 0, .slice ba bn bc, R', [], []⟩] := by
    refine ⟨⟨?_, fun W hW x hx => ?_⟩, fun x hx => by simp only [List.mem_singleton] at hx; subst hx; exact hok⟩
    · rw [hoo]
      exact World.ownsRow_lit W16 #[.string nm, .slice none 0 0, .slice ba bn bc] 1 hne.2.2 (by decide) rfl
    · simp only [List.mem_singleton] at hx
      subst hx
      have hW' : Tcs (fun b => b < B) W16 W := (hb.tcs (S := fun b => b < B)).next hW fun k hk => by
        rcases hk with hk | hk
        · exact .inl (by omega)
        · simp only [Value.ownBlock, Option.some.injEq] at hk
          exact .inr (by omega)
      exact ⟨⟨none, 0, rfl, Nat.le_refl _, by omega, fun h => absurd h (Nat.lt_irrefl _)⟩, hr.rd W hW', rfl⟩
  have hfa := hfr.below hb
  obtain ⟨a', c', he, hnn, hcc⟩ := own_shape hfa.row.row
  simp only [Value.slice.injEq] at he
  obtain ⟨rfl, hfn, rfl⟩ := he
  obtain ⟨v17, w17, r17, h17, t17, f17⟩ := fr_app 24 (c := fc) (m := fn) hlit fa (Q2 := Q) hfn (fun e => by rw [hfn]; exact hnn e) hcc (fun x hx => by
    obtain ⟨e1, e2, -⟩ := hfa.row.now x hx
    obtain ⟨_, _, e1, -⟩ := e1
    exact ⟨by rw [e1]; rfl, e2.one⟩) hfr.ok (fun W hW => hfr.row.st W ((hb.tcs (S := fun k => k < M ∨ (Value.slice fa fn fc).ownBlock = some k)).next hW fun k hk => by
      rcases hk with hk | hk
      · exact .inl (.inl hk)
      · simp only [Value.ownBlock, Option.some.injEq] at hk
        exact .inr (by omega))) (by simp; omega) (by have := hb.size; omega)
  obtain ⟨va, vn, vc, rfl⟩ : ∃ x y z, v17 = .slice x y z := by obtain ⟨x, y, e⟩ := h17.shape; exact ⟨x, _, y, e⟩
  rw [hoo] at r17
  have t17' : Tcs (fun k => W16.heap.size ≤ k) (W16.alloc o) w17 := t17.mono fun k hk => by simp only [Value.ownBlock, Option.some.injEq] at hk; omega
  have hT17 := (hT.below hb).tcs (by have := hb.size; omega) t17' (by omega)
  have tS : Tcs (fun k => k = T) w17 (w17.setCell ⟨T, 1, none⟩ (.slice va vn vc)) := (Tcs.refl (fun k => k = T) w17).setCell (p := ⟨T, 1, none⟩) rfl _
  refine ⟨va, vn, vc, w17, r17, ⟨(hT17 1 _ rfl).1, (hT17 1 _ rfl).2⟩, hT17.set 1 _, ⟨_, h17.tcs (tS.mono fun k hk => by omega) (fun k hk => hk), by simp⟩, ?_, ?_⟩
  · have c17 : Cur g a len cap w17 := (hcu.alloc o).new (hL.mono (by omega)) t17' (fun k hk => hk)
    exact c17.keep tS (by omega) (fun b off x y e => by have := (hL.by8 b off x y).1; omega)
  · exact ((hb.tcs (S := fun b => b = T)).next t17' (fun k hk => .inr hk)).trans tS
/-- The tree, out of its boxes. -/
theorem td_fin {g : Nat} {a : Option Addr} {len cap GL M : Nat} {w W2 W : World} {va : Option Addr} {vn vc : Nat} {Q' : List FV} (hg : FrC W GL gcells) (hGL : w.heap.size ≤ GL ∧ GL < W.heap.size) (hfr : FR (fun k => k < M) M W (.slice va vn vc) Q') (hM : w.heap.size ≤ M) (hQ : 1 ≤ Q'.length ∧ Q'.length ≤ 20) : ∃ t, TD (fun k => k < w.heap.size) W (.slice (some ⟨GL, 0, none⟩) 4 4) (.slice va vn vc) t := by
  refine ⟨⟨globs4, Q'.map (fun q : FV => q.f)⟩, fun W' hW => globs_fr (hg.tcs hGL.2 hW (by omega)), ?fs, ⟨(by decide : 1 ≤ globs4.length), (by decide : globs4.length ≤ 20)⟩, ?_, ⟨by simp; omega, by simp; omega⟩, ?_⟩
  case fs =>
    have h0 := hfr.row.row
    rcases h0.2 with ⟨-, hz⟩ | ⟨b, cap, cur, e, h3, h4, h5⟩
    · omega
    · obtain ⟨q1, q2, -⟩ := h5
      unfold maxLen at q2
      refine ⟨b, 0, cap, Q', e, q1, q2, rfl, fun W' hW => ?_⟩
      have hW' : Tcs (fun k => k < M) W W' := hW.mono fun k hk => by omega
      refine ⟨fun j u hu => ?_, hfr.row.st W' (hW'.mono fun k hk => .inl hk)⟩
      rw [e] at h0
      have := World.ownsRow.cells (own_tcs h0 hW' (fun k hk => hk)) (g := b) rfl j u hu
      rwa [addrO] at this
  · intro x hx
    simp only [globs4, List.mem_cons, List.not_mem_nil, or_false] at hx
    rcases hx with rfl | rfl | rfl | rfl <;> decide
  · intro f hf
    obtain ⟨x, hx, rfl⟩ := List.mem_map.1 hf
    exact hfr.ok x hx
end
section
open Go.RowKit
theorem flatS_set : ∀ (R : List SV) (i c : Nat) (u : Value) (x' : SV) (hi : i < R.length), c < 6 → cellsS x' = (cellsS R[i]).set c u → flatS (R.set i x') = (flatS R).set (i * 6 + c) u
  | x :: l, 0, c, u, x', _, hc, hx => by
    have h6 : (cellsS x).length = 6 := rfl
    show cellsS x' ++ flatS l = (cellsS x ++ flatS l).set (0 * 6 + c) u
    rw [List.set_append_left _ _ (by omega)]
    have : cellsS x' = (cellsS x).set c u := hx
    rw [this]
    simp
  | x :: l, i + 1, c, u, x', hi, hc, hx => by
    have h6 : (cellsS x).length = 6 := rfl
    show cellsS x ++ flatS (l.set i x') = (cellsS x ++ flatS l).set ((i + 1) * 6 + c) u
    rw [List.set_append_right _ _ (by omega), flatS_set l i c u x' (by simpa using hi) hc hx]
    congr 2
    omega
theorem flatF_set : ∀ (Q : List FV) (i c : Nat) (u : Value) (x' : FV) (hi : i < Q.length), c < 3 → cellsF x' = (cellsF Q[i]).set c u → flatF (Q.set i x') = (flatF Q).set (i * 3 + c) u
  | x :: l, 0, c, u, x', _, hc, hx => by
    have h6 : (cellsF x).length = 3 := rfl
    show cellsF x' ++ flatF l = (cellsF x ++ flatF l).set (0 * 3 + c) u
    rw [List.set_append_left _ _ (by omega)]
    have : cellsF x' = (cellsF x).set c u := hx
    rw [this]
    simp
  | x :: l, i + 1, c, u, x', hi, hc, hx => by
    have h6 : (cellsF x).length = 3 := rfl
    show cellsF x ++ flatF (l.set i x') = (cellsF x ++ flatF l).set ((i + 1) * 3 + c) u
    rw [List.set_append_right _ _ (by omega), flatF_set l i c u x' (by simpa using hi) hc hx]
    congr 2
    omega
/-- Statements and functions, spoilt, that can be told. -/
def okS2 (R : List SV) : Prop := ∀ x ∈ R, okN x.s.e 5000 ∧ okN x.s.f 5000 ∧ x.s.name.size ≤ 100000
theorem okS.two {R : List SV} (h : okS R) : okS2 R := fun x hx => ⟨(h x hx).1.more (by omega), (h x hx).2.1.more (by omega), (h x hx).2.2⟩
structure okF2 (f : Fu) : Prop where
  nm : f.name.size ≤ 100000
  pl : f.params.length ≤ 30
  pn : ∀ p ∈ f.params, p.size ≤ 100000
  bu : f.body.length ≤ 20000
  st : ∀ s ∈ f.body, okN s.e 5000 ∧ okN s.f 5000 ∧ s.name.size ≤ 100000
theorem okFn.two {f : Fu} (h : okFn f) : okF2 f := ⟨h.nm, by have := h.pl; omega, h.pn, by have := h.bu; omega, fun s hs => ⟨(h.st s hs).1.more (by omega), (h.st s hs).2.1.more (by omega), (h.st s hs).2.2⟩⟩
/-- A row of statements of one's own, whose nodes lie outside S. -/
structure BR (S : Nat → Prop) (B : Nat) (w : World) (v : Value) (R : List SV) : Prop where
  row : DRow 88 6 S B w v R.length (flatS R) (PtS R)
  ok : okS2 R
theorem BR.tcs {S : Nat → Prop} {B : Nat} {w w' : World} {v : Value} {R : List SV} (h : BR S B w v R) (ht : Tcs S w w') (hS : ∀ k, S k → k < B) : BR S B w' v R := ⟨h.row.tcs ht hS, h.ok⟩
theorem BR.below {S : Nat → Prop} {B : Nat} {w w' : World} {v : Value} {R : List SV} (h : BR S B w v R) (hb : Below w.heap.size w w') : BR S B w' v R := ⟨h.row.below hb, h.ok⟩
theorem BR.rng {S : Nat → Prop} {B : Nat} {w : World} {v : Value} {R : List SV} (h : BR S B w v R) : ∀ k, v.ownBlock = some k → B ≤ k ∧ k < w.heap.size := fun k hk => World.ownsRow.lt h.row.row k hk
theorem BR.shape {S : Nat → Prop} {B : Nat} {w : World} {v : Value} {R : List SV} (h : BR S B w v R) (hp : 0 < R.length) : ∃ b c, v = .slice (some ⟨b, 0, none⟩) R.length c := by
  rcases h.row.row.2 with ⟨-, hz⟩ | ⟨g, cap, cur, rfl, _⟩
  · omega
  · exact ⟨g, cap, rfl⟩
/-- A cell of a statement is written. -/
theorem BR.put {S : Nat → Prop} {B b n cap : Nat} {w : World} {R : List SV} (h : BR S B w (.slice (some ⟨b, 0, none⟩) n cap) R) (i c : Nat) (u : Value) (x' : SV) (hi : i < R.length) (hc : c < 6) (hx : cellsS x' = (cellsS R[i]).set c u) (hp : ∀ W, Tcs (fun k => S k ∨ k = b) w W → Nodes W x'.ve x'.s.e ∧ Nodes W x'.vf x'.s.f) (ho : okN x'.s.e 5000 ∧ okN x'.s.f 5000 ∧ x'.s.name.size ≤ 100000) :
    BR S B (w.setCell ⟨b, i * 6 + c, none⟩ u) (.slice (some ⟨b, 0, none⟩) n cap) (R.set i x') := by
  have hn : n = R.length := by
    obtain ⟨_, _, e, -⟩ := own_shape h.row.row
    simp at e
    exact e.2.1
  subst hn
  have h1 := (h.row.row.stored (i * 6 + c) u).1
  refine ⟨⟨by rw [List.length_set, flatS_set R i c u x' hi hc hx]; exact h1, fun W hW x hm => ?_⟩, fun x hm => ?_⟩
  · have ht : Tcs (fun k => S k ∨ k = b) w W := ((Tcs.refl (fun k => S k ∨ k = b) w).setCell (p := ⟨b, i * 6 + c, none⟩) (.inr rfl) u).trans (hW.mono fun k hk => hk.imp id fun e => by simp [Value.ownBlock] at e; exact e.symm)
    rcases List.mem_or_eq_of_mem_set hm with hm | rfl
    · exact h.row.st W (ht.mono fun k hk => hk.imp id fun e => by rw [e]; rfl) x hm
    · exact hp W ht
  · rcases List.mem_or_eq_of_mem_set hm with hm | rfl
    · exact h.ok x hm
    · exact ho
/-- A row of functions of one's own, spoilt. -/
structure F2 (S : Nat → Prop) (B : Nat) (w : World) (v : Value) (Q : List FV) : Prop where
  row : DRow 61 3 S B w v Q.length (flatF Q) (PtF Q)
  ok : ∀ x ∈ Q, okF2 x.f
theorem FR.two {S : Nat → Prop} {B : Nat} {w : World} {v : Value} {Q : List FV} (h : FR S B w v Q) : F2 S B w v Q := ⟨h.row, fun x hx => (h.ok x hx).two⟩
theorem F2.tcs {S : Nat → Prop} {B : Nat} {w w' : World} {v : Value} {Q : List FV} (h : F2 S B w v Q) (ht : Tcs S w w') (hS : ∀ k, S k → k < B) : F2 S B w' v Q := ⟨h.row.tcs ht hS, h.ok⟩
theorem F2.below {S : Nat → Prop} {B : Nat} {w w' : World} {v : Value} {Q : List FV} (h : F2 S B w v Q) (hb : Below w.heap.size w w') : F2 S B w' v Q := ⟨h.row.below hb, h.ok⟩
theorem F2.less {S S' : Nat → Prop} {B : Nat} {w : World} {v : Value} {Q : List FV} (h : F2 S B w v Q) (hs : ∀ k, S' k → S k) : F2 S' B w v Q := ⟨h.row.less hs, h.ok⟩
theorem F2.rng {S : Nat → Prop} {B : Nat} {w : World} {v : Value} {Q : List FV} (h : F2 S B w v Q) : ∀ k, v.ownBlock = some k → B ≤ k ∧ k < w.heap.size := fun k hk => World.ownsRow.lt h.row.row k hk
theorem F2.funcs {S : Nat → Prop} {B : Nat} {w : World} {v : Value} {Q : List FV} (h : F2 S B w v Q) (hS : ∀ k, S k → k < B) : ∀ W, Tcs S w W → Funcs W v (Q.map (fun q : FV => q.f)) := fun W hW =>
  funcs_of (own_tcs h.row.row hW hS) (h.row.st W (hW.mono fun k hk => .inl hk))
/-- A cell of a function is written. -/
theorem F2.put {S : Nat → Prop} {B b n cap : Nat} {w : World} {Q : List FV} (h : F2 S B w (.slice (some ⟨b, 0, none⟩) n cap) Q) (i c : Nat) (u : Value) (x' : FV) (hi : i < Q.length) (hc : c < 3) (hx : cellsF x' = (cellsF Q[i]).set c u) (hp : ∀ W, Tcs (fun k => S k ∨ k = b) w W → Strs W x'.vp x'.f.params ∧ RdS W x'.vb x'.R ∧ x'.R.map (·.s) = x'.f.body) (ho : okF2 x'.f) :
    F2 S B (w.setCell ⟨b, i * 3 + c, none⟩ u) (.slice (some ⟨b, 0, none⟩) n cap) (Q.set i x') := by
  have hn : n = Q.length := by
    obtain ⟨_, _, e, -⟩ := own_shape h.row.row
    simp at e
    exact e.2.1
  subst hn
  have h1 := (h.row.row.stored (i * 3 + c) u).1
  refine ⟨⟨by rw [List.length_set, flatF_set Q i c u x' hi hc hx]; exact h1, fun W hW x hm => ?_⟩, fun x hm => ?_⟩
  · have ht : Tcs (fun k => S k ∨ k = b) w W := ((Tcs.refl (fun k => S k ∨ k = b) w).setCell (p := ⟨b, i * 3 + c, none⟩) (.inr rfl) u).trans (hW.mono fun k hk => hk.imp id fun e => by simp [Value.ownBlock] at e; exact e.symm)
    rcases List.mem_or_eq_of_mem_set hm with hm | rfl
    · exact h.row.st W (ht.mono fun k hk => hk.imp id fun e => by rw [e]; rfl) x hm
    · exact hp W ht
  · rcases List.mem_or_eq_of_mem_set hm with hm | rfl
    · exact h.ok x hm
    · exact ho
/-- The statements of such a row, read. -/
theorem BR.stmts {S : Nat → Prop} {B : Nat} {w : World} {v : Value} {R : List SV} (h : BR S B w v R) (hS : ∀ k, S k → k < B) : ∀ W, Tcs S w W → Stmts W v (R.map (·.s)) := fun W hW =>
  stmts_of (own_tcs h.row.row hW hS) (h.row.st W (hW.mono fun k hk => .inl hk))
def gcl (g : Gl) : List Value := [.string g.name, .int .i64 g.size]
def gflat (gs : List Gl) : List Value := gs.flatMap gcl
theorem gflat_len (gs : List Gl) : (gflat gs).length = gs.length * 2 := by
  induction gs with
  | nil => rfl
  | cons a r ih =>
    have : (gflat (a :: r)).length = 2 + (gflat r).length := by simp [gflat, gcl]; omega
    rw [this, ih, List.length_cons]
    omega
theorem gflat_get : ∀ (gs : List Gl) (j i : Nat) (hj : j < gs.length), i < 2 → (gflat gs)[j * 2 + i]? = (gcl gs[j])[i]?
  | x :: l, 0, i, _, hi => by
    have : (gcl x).length = 2 := rfl
    show (gcl x ++ gflat l)[0 * 2 + i]? = _
    rw [List.getElem?_append_left (by omega)]
    simp
  | x :: l, j + 1, i, hj, hi => by
    have h7 : (gcl x).length = 2 := rfl
    show (gcl x ++ gflat l)[(j + 1) * 2 + i]? = _
    rw [List.getElem?_append_right (by omega)]
    have e : (j + 1) * 2 + i - (gcl x).length = j * 2 + i := by omega
    rw [e, gflat_get l j i (by simpa using hj) hi]
    simp
/-- A row of globals of one's own. -/
def GR (B : Nat) (w : World) (v : Value) (gs : List Gl) : Prop := w.ownsRow B 78 2 v gs.length (gflat gs)
theorem globs_of {B : Nat} {w : World} {v : Value} {gs : List Gl} (h : GR B w v gs) : Globs w v gs := by
  have h0 : w.ownsRow B 78 2 v gs.length (gflat gs) := h
  rcases h0.2 with ⟨rfl, hz⟩ | ⟨g, cap, cur, rfl, h3, h4, h5⟩
  · exact ⟨none, 0, by rw [hz], by rw [hz]; exact Nat.le_refl _, by omega, fun h => by omega⟩
  · have hc : gs.length ≤ cap ∧ cap ≤ 9223372036854775807 := by
      obtain ⟨q1, q2, -⟩ := h5
      unfold maxLen at q2
      exact ⟨q1, q2⟩
    refine ⟨some ⟨g, 0, none⟩, cap, rfl, hc.1, hc.2, fun hp' => ⟨g, 0, rfl, fun j hj => ?_⟩⟩
    have key : ∀ i, i < 2 → w.cell? ⟨g, 0 + j * 2 + i, none⟩ = (gcl gs[j])[i]? := fun i hi => by
      have hl : (gflat gs).length = gs.length * 2 := gflat_len gs
      rw [Nat.zero_add, World.ownsRow.cellAt h0 (j * 2 + i) (by omega), gflat_get gs j i hj hi]
    exact ⟨key 0 (by omega), key 1 (by omega)⟩
end
end Go.Proofs.YtjhmgjimppflhaaGreatDoor
