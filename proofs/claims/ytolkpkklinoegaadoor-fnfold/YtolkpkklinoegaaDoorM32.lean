import Derived.Test.YtolkpkklinoegaaDoorM31
import Derived.Deep.Cut
set_option linter.unusedSectionVars false
variable [Inhabited Go.Proofs.YtolkpkklinoegaaDoor.Pick]
namespace Go.Proofs.YtolkpkklinoegaaDoor
set_option linter.unusedVariables false
set_option linter.unusedSimpArgs false
set_option maxRecDepth 100000
set_option maxHeartbeats 16000000
section
open Go.RowKit
set_option maxRecDepth 100000 in
set_option maxHeartbeats 4000000 in
theorem evalG_fr (t : Tr) (vg vf vI vFr : Value) (i fr : List Int) (F : Int) (w : World) (hck : ∀ X, Below w.heap.size w X → Calls Tryd.prog 21 #[.agg #[vg, vf]] X fun e w' => (∃ x y, e = .returned (.agg #[.int .i64 (checkE t).1, .int .i64 x, .int .i64 y])) ∧ Below X.heap.size X w') (hg : Globs w vg t.globals) (hf : Funcs w vf t.funcs) (hI : InN w vI i) (hFr : InN w vFr fr) (hil : i.length ≤ 1048576) (hfl : fr.length ≤ 1048576) (hfs : t.funcs.length ≤ 1048576)
  (hck0 : (checkE t).1 = 0) (hi0 : i.length ≤ 1000) (hw0 : i.all inBb = true) (hF : 0 ≤ F ∧ F ≤ 100000) (hfe2 : fr.length = t.funcs.length) (hbad : fr.all frB = false) :
  Calls Tryd.prog 9 #[.agg #[vg, vf], vI, .int .i64 F, vFr] w fun e w' => e = .returned zeroE ∧ Below w.heap.size w w' := by
 have HCk := hide hck
 have HI := hide hI
 have HFr0 := hide hFr
 have HBad := hide hbad
 obtain ⟨ag, cg, rfl, -⟩ := hg
 obtain ⟨af, cf, rfl, -⟩ := hf
 obtain ⟨ai, ci, rfl, hi1, hi2, -⟩ := hI
 obtain ⟨ar, cr, rfl, hr1, hr2, -⟩ := hFr
 obtain ⟨W1, hW1⟩ : ∃ W1, W1 = (w.alloc (.cells #[.slice ag t.globals.length cg, .slice af t.funcs.length cf] 41)).alloc (.cells #[.int .i64 0, .slice none 0 0, .int .i64 0, .int .i64 0, .int .i64 0] 44) := ⟨_, rfl⟩
 have hb1 : Below w.heap.size w W1 := by rw [hW1]; exact ((Below.refl _ _).alloc (Nat.le_refl _) _).alloc (by simp) _
 have HB1 := hide hb1
 clear hck hb1 hbad
 go_enter Tryd.func9, Tryd.ntmps9
 go_wp2_with fail
 rw [← hW1]
 have hz1 : W1.heap.size = w.heap.size + 2 := by rw [hW1, World.size_alloc, World.size_alloc]
 have hfr : FrC W1 (w.heap.size + 1) [.int .i64 0, .slice none 0 0, .int .i64 0, .int .i64 0, .int .i64 0] := by
  rw [hW1]
  have := box_fr (w.alloc (.cells #[.slice ag t.globals.length cg, .slice af t.funcs.length cf] 41)) #[.int .i64 0, .slice none 0 0, .int .i64 0, .int .i64 0, .int .i64 0] 44 (by decide)
  rw [World.size_alloc] at this
  exact this
 have hft : FrC W1 w.heap.size [.slice ag t.globals.length cg, .slice af t.funcs.length cf] := by
  rw [hW1]
  exact (box_fr w #[.slice ag t.globals.length cg, .slice af t.funcs.length cf] 41 (by show 2 ≤ 1000; omega)).below ((Below.refl _ _).alloc (Nat.le_refl _) _)
 have HFr := hide hfr
 have HFt := hide hft
 clear hW1 hfr hft
 obtain ⟨M, hM⟩ : ∃ M, M = w.heap.size := ⟨_, rfl⟩
 rw [← hM] at HFr HFt hz1 ⊢
 have HM := hide hM
 clear hM
 refine (HCk.out W1 HB1.out).mono ?_
 rintro e w2 ⟨⟨x, y, rfl⟩, hb2⟩
 have hfr2 := HFr.out.below hb2
 have hft2 := HFt.out.below hb2
 have y0 := (hfr2 0 _ rfl).1
 have z0 := (hfr2 0 _ rfl).2
 have y1 := (hfr2 1 _ rfl).1
 have z1 := (hfr2 1 _ rfl).2
 have y2 := (hfr2 2 _ rfl).1
 have z2 := (hfr2 2 _ rfl).2
 have y3 := (hfr2 3 _ rfl).1
 have z3 := (hfr2 3 _ rfl).2
 have y4 := (hfr2 4 _ rfl).1
 have z4 := (hfr2 4 _ rfl).2
 have HF5 := hide (((((hfr2.set 0 (.int .i64 0)).set 1 (.slice none 0 0)).set 2 (.int .i64 0)).set 3 (.int .i64 0)).set 4 (.int .i64 0))
 have hbw2 : Below w.heap.size w w2 := HB1.out.trans (hb2.mono HB1.out.size)
 have HB2 := hide hbw2
 have hfe := fld_errE
 rw [hck0]
 have HFt2 := hide hft2
 have Hfr2 := hide hfr2
 clear hfr2 hft2 hb2 hbw2
 have hft := HFt2.out
 have x1 := (hft 1 _ rfl).1
 have h1' : ¬ (1000 : Int) < (i.length : Int) := by omega
 go_wp2_with fail
 have hw2 : Below w.heap.size w w2 := HB2.out
 refine (wordsG_any _ i w2 ⟨ai, ci, rfl, hi1, hi2, ?_⟩ hil).mono ?_
 ·intro hpos
  obtain ⟨a', c', e', -, -, h3⟩ := HI.out
  simp only [Value.slice.injEq] at e'
  obtain ⟨rfl, -, rfl⟩ := e'
  obtain ⟨b, off, rfl, hc⟩ := h3 hpos
  exact ⟨b, off, rfl, fun j hj => (hw2.cell (p := ⟨b, _, none⟩) (World.block_lt_of_cell? _ _ (hc j hj))).trans (hc j hj)⟩
 rintro e w3 ⟨rfl, hb3⟩
 have hf3 := Hfr2.out.below hb3
 have hg3 := HFt2.out.below hb3
 have HB3 := hide (HB2.out.trans (hb3.mono HB2.out.size))
 clear x1 y0 y1 y2 y3 y4 z0 z1 z2 z3 z4 hw2
 have x1 := (hg3 1 _ rfl).1
 have y0 := (hf3 0 _ rfl).1
 have z0 := (hf3 0 _ rfl).2
 have y1 := (hf3 1 _ rfl).1
 have z1 := (hf3 1 _ rfl).2
 have y2 := (hf3 2 _ rfl).1
 have z2 := (hf3 2 _ rfl).2
 have y3 := (hf3 3 _ rfl).1
 have z3 := (hf3 3 _ rfl).2
 have y4 := (hf3 4 _ rfl).1
 have z4 := (hf3 4 _ rfl).2
 have HF6 := hide (((((hf3.set 0 (.int .i64 0)).set 1 (.slice none 0 0)).set 2 (.int .i64 0)).set 3 (.int .i64 0)).set 4 (.int .i64 0))
 clear hf3 hg3 hb3 hft
 rw [hw0]
 go_wp2_with fail
 refine (in_any _ _ _ _).mono ?_
 rintro e w4 ⟨rfl, hw4⟩
 rw [hw4]
 clear hw4
 have hdec : decide ((0 : Int) ≤ F ∧ F ≤ 100000) = true := decide_eq_true hF
 rw [hdec]
 clear hdec
 obtain ⟨fl, hfle⟩ : ∃ fl, fl = fr.length := ⟨_, rfl⟩
 have HFl := hide hfle
 rw [← hfe2] at x1 ⊢
 rw [← hfle] at x1 hfl hr1 ⊢
 have hne' : ((fl : Int) != (fl : Int)) = false := by simp
 clear hfle hfe2
 go_wp2_with fail
 go_loopw [9] (fun j wr => ∃ k : Nat, k ≤ fl ∧ j = .int .i64 (k : Int) ∧ (fr.take k).all frB = true ∧ wr = w3) (fun j _ => fl - (RowKit.intOf j).toNat)
 case atStart => exact ⟨0, Nat.zero_le _, rfl, rfl, rfl⟩
 case round =>
  obtain ⟨k, hk, rfl, ha, hwr⟩ := hrel
  rw [hwr]
  clear hwr
  have HAl := hide ha
  clear ha
  by_cases hlt : k < fl
  ·have hki : (k : Int) < (fl : Int) := by omega
   have hkl : k < fr.length := by rw [← HFl.out]; exact hlt
   obtain ⟨a', c', e', -, -, h3⟩ := HFr0.out
   simp only [Value.slice.injEq] at e'
   obtain ⟨rfl, -, rfl⟩ := e'
   obtain ⟨b, off, rfl, hc⟩ := h3 (by omega)
   have hck := (HB3.out.cell (p := ⟨b, _, none⟩) (World.block_lt_of_cell? _ _ (hc k hkl))).trans (hc k hkl)
   obtain ⟨x', hx⟩ : ∃ x', x' = fr[k] := ⟨_, rfl⟩
   rw [← hx] at hck
   have HX := hide hx
   clear hx hc h3
   go_wp2_with fail
   refine (in_any _ _ _ _).mono ?_
   rintro e w4 ⟨rfl, hw4⟩
   rw [hw4]
   clear hw4
   by_cases hb : 0 ≤ x' ∧ x' ≤ 1000000
   ·have hdec : decide ((0 : Int) ≤ x' ∧ x' ≤ 1000000) = true := decide_eq_true hb
    rw [hdec]
    have HTk : Hid ((fr.take (k + 1)).all frB = true) := by show _ = _; rw [List.take_succ_eq_append_getElem hkl, List.all_append, HAl.out]; simp [← HX.out, frB, hb]
    clear hdec hb
    go_wp2_with fail
    go_roundw
    case rel => exact ⟨k + 1, by omega, by go_num, HTk.out, trivial⟩
    case measure => simp [RowKit.intOf]; omega
   ·have hdec : decide ((0 : Int) ≤ x' ∧ x' ≤ 1000000) = false := decide_eq_false hb
    rw [hdec]
    clear hdec hb
    go_wp2_with fail
    have t0 := (HF6.out 0 _ rfl).1
    have t1 := (HF6.out 1 _ rfl).1
    have t2 := (HF6.out 2 _ rfl).1
    have t3 := (HF6.out 3 _ rfl).1
    have t4 := (HF6.out 4 _ rfl).1
    refine bodyPost_ret (v := .agg #[.int .i64 0, .slice none 0 0, .int .i64 0, .int .i64 0, .int .i64 0]) (by simp [results, Tryd.results9, go_sem, t0, t1, t2, t3, t4]) rfl ⟨rfl, ?_⟩
    have := HM.out
    exact ((((HB3.out.setCell (p := ⟨M + 1, 0, none⟩) (by simp; omega) _).setCell (p := ⟨M + 1, 1, none⟩) (by simp; omega) _).setCell (p := ⟨M + 1, 2, none⟩) (by simp; omega) _).setCell (p := ⟨M + 1, 3, none⟩) (by simp; omega) _).setCell (p := ⟨M + 1, 4, none⟩) (by simp; omega) _
  ·exfalso
   have := HAl.out
   rw [List.take_of_length_le (by have := HFl.out; omega)] at this
   have hb := HBad.out
   rw [this] at hb
   cases hb
end
section
open Go.RowKit
set_option maxRecDepth 100000 in
set_option maxHeartbeats 8000000 in
theorem stS_deep (C : RC) (hC : C.Ok) (n : Nat) (IH : ExS C n) (IB : BlS C n) (s : St) (a b : List St) (z : ES) (r : ER) (z' : ES) (hE : Ev C.t C.fr (n + 1) (.p s a b) z r z') (hk : s.kind ≠ 3) (hk48 : s.kind = 4 ∨ s.kind = 5) (hOa : OkB C.t (z.l.map Prod.fst) a) (hOb : OkB C.t (z.l.map Prod.fst) b) (hKn : KnP C.t (z.l.map Prod.fst) s) (hsc : Scp C.t (z.l.map Prod.fst)) (h1 : oneB s.e = true) (hl1 : s.e.length ≤ 1048576) (hou : (z.o.length : Int) + z.u + 1 ≤ C.F) (hlu : z.l.length + z.u + 1 ≤ 200000)
  (w : World) (vl : Int) (lb : List Nat) (vL vI vO ve vf va vb : Value) (vt vu : Int) (h : RS C w 0 false vl lb vL vI vO z) (hNe : Nodes C.w0 ve s.e) (hfs : ∃ fa fn fc, vf = .slice fa fn fc) (hSa : Stmts C.w0 va a) (hSb : Stmts C.w0 vb b) :
  Calls Tryd.prog 72 #[.pointer (some ⟨C.P, 0, none⟩), .agg #[.int .i64 s.kind, .string s.name, ve, vf, .int .i64 vt, .int .i64 vu], va, vb] w fun x w' => PaP C w lb vL vO r z' x w' := by
 obtain ⟨ea, en, ec, rfl⟩ : ∃ ea en ec, ve = .slice ea en ec := ⟨_, _, _, hNe.choose_spec.choose_spec.1⟩
 obtain ⟨fa, fn, fc, rfl⟩ := hfs
 obtain ⟨aa, an, ac, rfl⟩ : ∃ fa fn fc, va = .slice fa fn fc := ⟨_, _, _, hSa.choose_spec.choose_spec.1⟩
 obtain ⟨ba, bn, bc, rfl⟩ : ∃ fa fn fc, vb = .slice fa fn fc := ⟨_, _, _, hSb.choose_spec.choose_spec.1⟩
 obtain ⟨sk, hsk⟩ : ∃ sk, sk = s.kind := ⟨_, rfl⟩
 rw [← hsk]
 obtain ⟨W, hW⟩ : ∃ W, W = w.alloc (.cells #[.int .i64 sk, .string s.name, .slice ea en ec, .slice fa fn fc, .int .i64 vt, .int .i64 vu] 34) := ⟨_, rfl⟩
 obtain ⟨B, hB⟩ : ∃ B, B = w.heap.size := ⟨_, rfl⟩
 have hbW : Below w.heap.size w W := by rw [hW]; exact (Below.refl _ _).alloc (Nat.le_refl _) _
 have hBW : B < W.heap.size := by rw [hW, hB, World.size_alloc]; omega
 have hfr : FrC W B [.int .i64 sk, .string s.name, .slice ea en ec, .slice fa fn fc, .int .i64 vt, .int .i64 vu] := by
  rw [hW, hB]
  exact box_fr w #[.int .i64 sk, .string s.name, .slice ea en ec, .slice fa fn fc, .int .i64 vt, .int .i64 vu] _ (by show 6 ≤ 1000; omega)
 have hRW := h.below hbW
 have hT0 : ∀ k, TEx C vO k → k < B := fun k hk => by rw [hB]; exact (TEx.lt h k hk).1
 have key : ∀ (r1 : ER) (z1 : ES), Ev C.t C.fr n (.e s.e) z r1 z1 → Calls Tryd.prog 83 #[.pointer (some ⟨C.P, 0, none⟩), .slice ea en ec] W fun x w' => ExP C W lb vL vO r1 z1 x w' := fun r1 z1 h1' => IH s.e z r1 z1 h1' hKn.e hsc h1 hl1 W vl lb vL vI vO _ hRW hNe
 have HO := hide (fun (r1 : ER) (z1 : ES) (h' : Ev C.t C.fr n (.e s.e) z r1 z1) => And.intro (h'.inv h.ok trivial) h'.ou)
 have HC := hide hC
 have HKn := hide hKn
 have HSc := hide hsc
 have HB := hide hB
 have HbW := hide hbW
 have HT0 := hide hT0
 have HBW := hide hBW
 have HFr := hide hfr
 have HSk := hide hsk
 have g2 := (hfr 2 _ rfl).1
 have HFin : Hid (∀ (w' : World) (r : ER) (z' : ES) (vL' vI' vO' : Value) (vl' : Int), RS C w' (stR r) (rtR r) vl' lb vL' vI' vO' z' → (∀ v, r = .ret v → vl' = v) → Tcs (TSx C lb vL vO) W w' → (∀ k, vO'.ownBlock = some k → vO.ownBlock = some k ∨ W.heap.size ≤ k) → (∀ k, vL'.ownBlock = some k → vL.ownBlock = some k ∨ W.heap.size ≤ k) → PaP C w lb vL vO r z' (.returned (.tuple #[])) w') := fun w' r z' vL' vI' vO' vl' hR hv ht ho hl => ⟨⟨_, rfl⟩, lb, vL', vI', vO', vl', hR, hv, ⟨[], by simp, fun b hb => by simp at hb⟩, (hbW.tcs (S := TSx C lb vL vO)).next ht (fun k hk => .inl hk), fun k hk => (ho k hk).imp_right (fun h1 => Nat.le_trans hbW.size h1), fun k hk => (hl k hk).imp_right (fun h1 => Nat.le_trans hbW.size h1)⟩
 have hTS : ∀ k, TSx C lb vL vO k → k < B := fun k hk => by rw [hB]; exact TSx.lt h k hk
 have HTS := hide hTS
 -- a block
 have hblk : ∀ (ss : List St) (av : Option Addr) (nv cv : Nat), OkB C.t (z.l.map Prod.fst) ss → Stmts C.w0 (.slice av nv cv) ss → ∀ (z1 : ES) (m : Nat) (rb : ER) (zb : ES), m ≤ n → Ev C.t C.fr m (.bl ss) z1 rb zb → z1.l.map Prod.fst = z.l.map Prod.fst → z1.l.length + z1.u ≤ 200000 → ∀ (w1 : World) (vl1 : Int) (vL1 vI1 vO1 : Value), RS C w1 0 false vl1 lb vL1 vI1 vO1 z1 → Calls Tryd.prog 54 #[.pointer (some ⟨C.P, 0, none⟩), .slice av nv cv] w1 fun x w' => BlP C w1 lb vL1 vO1 rb zb x w' := fun ss av nv cv hO hS z1 m rb zb hm hb hn hl w1 vl1 vL1 vI1 vO1 hR => IB ss z1 rb zb (hb.ups hm) (by rw [hn]; exact hO) (by rw [hn]; exact hsc) hl w1 vl1 lb vL1 vI1 vO1 _ hR hS
 have HBa := hide (hblk a aa an ac hOa hSa)
 have HBb := hide (hblk b ba bn bc hOb hSb)
 have hex : ∀ (z1 : ES) (m : Nat) (r1 : ER) (z2 : ES), m ≤ n → Ev C.t C.fr m (.e s.e) z1 r1 z2 → z1.l.map Prod.fst = z.l.map Prod.fst → ∀ (w1 : World) (vl1 : Int) (vL1 vI1 vO1 : Value), RS C w1 0 false vl1 lb vL1 vI1 vO1 z1 → Calls Tryd.prog 83 #[.pointer (some ⟨C.P, 0, none⟩), .slice ea en ec] w1 fun x w' => ExP C w1 lb vL1 vO1 r1 z2 x w' := fun z1 m r1 z2 hm he hn w1 vl1 vL1 vI1 vO1 hR => IH s.e z1 r1 z2 (he.ups hm) (by rw [hn]; exact hKn.e) (by rw [hn]; exact hsc) h1 hl1 w1 vl1 lb vL1 vI1 vO1 _ hR hNe
 have HEx := hide hex
 have HFb := hide hC.fu
 have HRS := hide h
 have HOu := hide (And.intro hou hlu)
 rcases ev_stmt hE hk with ⟨c, rfl, e1⟩ | ⟨v, z1, e1, hrest⟩
 ·have hc0 : (c == 0) = false := by rcases e1.outc c rfl with rfl | rfl <;> rfl
  have hc1 : (c != 0) = true := by rcases e1.outc c rfl with rfl | rfl <;> rfl
  have HCl := hide (key _ _ e1)
  clear key HO HC HKn HSc hE hC hKn hsc IH h1 hl1 hNe hRW hT0 hfr h hbW e1 hk hk48 hsk hou hlu hTS hblk hex IB hOa hOb hSa hSb HBa HBb HEx
  go_enter Tryd.func72, Tryd.ntmps72
  go_wp2_with fail
  rw [← hW, ← hB]
  clear hW hB
  refine HCl.out.mono ?_
  rintro x w1 ⟨z0, vI1, vO1, vl1, rfl, -, hR1, t1, ho1⟩
  have y8 := (hR1.box 8 _ rfl).1
  simp only [stR] at y8
  have HF := hide (HFin.out w1 (.out c) z' vL vI1 vO1 vl1 hR1 (fun v hv => by cases hv) ((Tcs.refl (TSx C lb vL vO) W).next t1 (TEx.up (fun k hk => .inl hk))) ho1 (fun k hk => .inl hk))
  clear hR1 t1 ho1
  go_wp2_with fail
  exact bodyPost_ret (v := .tuple #[]) (by simp [results, Tryd.results72, go_sem]) rfl HF.out
 ·have HCl := hide (key _ _ e1)
  obtain ⟨⟨o1, v1, s1⟩, ou1⟩ := HO.out _ _ e1
  have hz1 : z1.l = z.l := s1.2.2.2
  have HZ1 := hide hz1
  have HV := hide (v1 v (.inl rfl))
  have hou1 : (z1.o.length : Int) + z1.u + 1 ≤ C.F := by have := ou1.2.1; simp only [Tk.d] at this; omega
  have hlu1 : z1.l.length + 1 ≤ 200000 := by have := ou1.2.2; simp only [Tk.d] at this; omega
  have HOu1 := hide (And.intro hou1 hlu1)
  have hrest' : (sk = 4 ∧ (v ≠ 0 ∧ Ev C.t C.fr n (.bl a) z1 r z' ∨ v = 0 ∧ Ev C.t C.fr n (.bl b) z1 r z')) ∨ (sk = 5 ∧ Wh C.t C.fr n s a b v z1 r z') := by
   rw [hsk]
   rcases hrest with ⟨h, -⟩ | ⟨h, -⟩ | ⟨h, -⟩ | ⟨h, -⟩ | ⟨h, -⟩ | h | h
   ·omega
   ·omega
   ·omega
   ·omega
   ·omega
   ·exact .inl h
   ·exact .inr h
  have hlz : z1.l.length + z1.u ≤ 200000 := by have := ou1.2.2; simp only [Tk.d] at this; omega
  have HLz := hide hlz
  have HN1 : Hid (z1.l.map Prod.fst = z.l.map Prod.fst) := by show _ = _; rw [hz1]
  clear key HO hE hC hKn hsc IH h1 hl1 hNe hRW hT0 hfr h hbW e1 hk hk48 hsk hou hlu hou1 hlu1 ou1 o1 v1 s1 hz1 hrest hTS hblk hex IB hOa hOb hSa hSb hlz
  go_enter Tryd.func72, Tryd.ntmps72
  go_wp2_with fail
  rw [← hW, ← hB]
  clear hW hB
  refine HCl.out.mono ?_
  rintro x w1 ⟨z0, vI1, vO1, vl1, rfl, hz, hR1, t1, ho1⟩
  obtain rfl : v = z0 := (hz v rfl).symm
  clear hz
  have y8 := (hR1.box 8 _ rfl).1
  simp only [stR] at y8 hR1
  have hfr1 := HFr.out.tcs HBW.out t1 (fun hx => by have := HT0.out _ hx; omega)
  have HT1 := hide ((Tcs.refl (TSx C lb vL vO) W).next t1 (TEx.up (fun k hk => .inl hk)))
  have hBs : B < w1.heap.size := Nat.lt_of_lt_of_le HBW.out t1.size
  have HW1 := hide t1.size
  have g0 := (hfr1 0 _ rfl).1
  have g1 := (hfr1 1 _ rfl).1
  have HFr1 := hide hfr1
  have HOw := hide ho1
  have HR1 := hide hR1
  have hup : ∀ k, TEx C vO1 k → TSx C lb vL vO k ∨ W.heap.size ≤ k := TEx.up ho1
  have HUp := hide hup
  clear hR1 t1 ho1 hfr1 hup
  rcases hrest' with ⟨rfl, hv⟩ | ⟨rfl, hwh⟩
  ·rcases hv with ⟨hv, hb⟩ | ⟨rfl, hb⟩
   ·have hv' : (v != 0) = true := by simpa using hv
    have HCb := hide (HBa.out z1 n r z' (Nat.le_refl _) hb HN1.out HLz.out w1 vl1 vL vI1 vO1 HR1.out)
    clear hb hv
    go_wp2_with fail
    refine HCb.out.mono ?_
    rintro x w2 ⟨⟨y, rfl⟩, vL2, vI2, vO2, vl2, hR2, hv2, t2, ho2, hl2⟩
    have HF := hide (HFin.out w2 r z' vL2 vI2 vO2 vl2 hR2 hv2 (HT1.out.next t2 (TSx.up HOw.out (fun k hk => .inl hk))) (fun k hk => by
     rcases ho2 k hk with h1 | h1
     ·exact HOw.out k h1
     ·exact .inr (Nat.le_trans HW1.out h1)) (fun k hk => (hl2 k hk).imp_right (fun h1 => Nat.le_trans HW1.out h1)))
    clear hR2 hv2 t2 ho2 hl2
    go_wp2_with fail
    exact bodyPost_end (v := .tuple #[]) (by simp [results, Tryd.results72, go_sem]) rfl HF.out
   ·have HCb := hide (HBb.out z1 n r z' (Nat.le_refl _) hb HN1.out HLz.out w1 vl1 vL vI1 vO1 HR1.out)
    clear hb
    go_wp2_with fail
    refine HCb.out.mono ?_
    rintro x w2 ⟨⟨y, rfl⟩, vL2, vI2, vO2, vl2, hR2, hv2, t2, ho2, hl2⟩
    have HF := hide (HFin.out w2 r z' vL2 vI2 vO2 vl2 hR2 hv2 (HT1.out.next t2 (TSx.up HOw.out (fun k hk => .inl hk))) (fun k hk => by
     rcases ho2 k hk with h1 | h1
     ·exact HOw.out k h1
     ·exact .inr (Nat.le_trans HW1.out h1)) (fun k hk => (hl2 k hk).imp_right (fun h1 => Nat.le_trans HW1.out h1)))
    clear hR2 hv2 t2 ho2 hl2
    go_wp2_with fail
    exact bodyPost_end (v := .tuple #[]) (by simp [results, Tryd.results72, go_sem]) rfl HF.out
  ·have HWh := hide hwh
   clear hwh
   go_wp2_with fail
   go_loopw [8] (fun i wr => ∃ (u : Int) (vL1 vI1 vO1 : Value) (vl1 : Int) (zc : ES), i = .int .i64 u ∧ (∀ k, vO1.ownBlock = some k → vO.ownBlock = some k ∨ W.heap.size ≤ k) ∧ (∀ k, vL1.ownBlock = some k → vL.ownBlock = some k ∨ W.heap.size ≤ k) ∧ Tcs (TSx C lb vL vO) W wr ∧
    ((u ≠ 0 ∧ ∃ m, m ≤ n ∧ Wh C.t C.fr m s a b u zc r z' ∧ RS C wr 0 false vl1 lb vL1 vI1 vO1 zc ∧ zc.l.map Prod.fst = z.l.map Prod.fst ∧ zc.l.length + zc.u ≤ 200000) ∨ ((u = 0 ∨ stR r ≠ 0) ∧ RS C wr (stR r) (rtR r) vl1 lb vL1 vI1 vO1 z' ∧ ∀ v, r = .ret v → vl1 = v))) (fun i wr => wb (RowKit.intOf i) + 2 * fuelW C wr)
   case atStart =>
    refine ⟨v, vL, vI1, vO1, vl1, z1, rfl, HOw.out, fun k hk => .inl hk, HT1.out, ?_⟩
    by_cases hv : v = 0
    ·rcases HWh.out with ⟨-, rfl, rfl⟩ | ⟨h1, -⟩
     ·exact .inr ⟨.inl hv, HR1.out, fun v hv => by cases hv⟩
     ·exact absurd hv h1
    ·exact .inl ⟨hv, n, Nat.le_refl _, HWh.out, HR1.out, HN1.out, HLz.out⟩
   case round =>
    clear HWh HR1 HN1 HLz HT1 HOw HFr1 HUp g0 g1 y8 HW1
    obtain ⟨u, vL1, vI1, vO1, vl1, zc, rfl, ho, hl, ht, hst⟩ := hrel
    have HHo := hide ho
    have HHl := hide hl
    have HHt := hide ht
    have hfrw := HFr.out.tcs HBW.out ht (fun hx => by have := HTS.out _ hx; omega)
    have k2 := (hfrw 2 _ rfl).1
    have HFrw := hide hfrw
    have hBw : B < wr.heap.size := Nat.lt_of_lt_of_le HBW.out ht.size
    clear ho hl ht hfrw
    rcases hst with ⟨hu, m, hm, hw, hR, hN, hL⟩ | ⟨hu, hR, hv⟩
    ·have hu' : (u != 0) = true := by simpa using hu
     rcases hw with ⟨h1, -⟩ | ⟨-, rb, zb, hb, hrest⟩
     ·exact absurd h1 hu
     have HRc := hide hR
     have HCb := hide (HBa.out zc m rb zb hm hb hN hL wr vl1 vL1 vI1 vO1 hR)
     have HOb := hide hb.ou
     have HNv := hide (hb.nov rfl)
     have HOc := hide (fun c (h : rb = .out c) => hb.outc c h)
     have hNb : zb.l.map Prod.fst = zc.l.map Prod.fst := (hb.inv hR.ok trivial).2.2.2.2.2
     have HNb := hide (hNb.trans hN)
     have HRe := hide hrest
     have HL := hide hL
     have HM := hide hm
     have HFu := hide hR.fuel
     clear hb hrest hR hNb hN hL hm
     go_wp2_with fail
     refine (going_any HRc.out).mono ?_
     rintro x w2 ⟨rfl, hw2⟩
     rw [hw2]
     clear hw2
     go_wp2_with fail
     refine HCb.out.mono ?_
     rintro x w2 ⟨⟨y, rfl⟩, vL2, vI2, vO2, vl2, hR2, hv2, t2, ho2, hl2⟩
     have HR2 := hide hR2
     have HV2 := hide hv2
     have HT2 := hide (HHt.out.next t2 (TSx.up HHo.out HHl.out))
     have hws : W.heap.size ≤ wr.heap.size := HHt.out.size
     have HO2 : Hid (∀ k, vO2.ownBlock = some k → vO.ownBlock = some k ∨ W.heap.size ≤ k) := fun k hk => by
      rcases ho2 k hk with h1 | h1
      ·exact HHo.out k h1
      ·exact .inr (Nat.le_trans hws h1)
     have HL2 : Hid (∀ k, vL2.ownBlock = some k → vL.ownBlock = some k ∨ W.heap.size ≤ k) := fun k hk => by
      rcases hl2 k hk with h1 | h1
      ·exact HHl.out k h1
      ·exact .inr (Nat.le_trans hws h1)
     have HUb : Hid (zb.u ≤ zc.u) := HOb.out.1
     clear hR2 hv2 t2 ho2 hl2 hws
     go_wp2_with fail
     refine (going_any HR2.out).mono ?_
     rintro x w3 ⟨rfl, hw3⟩
     rw [hw3]
     clear hw3
     rcases HRe.out with ⟨hrb, rfl, rfl⟩ | ⟨rfl, hu0, rfl, rfl⟩ | ⟨rfl, hu0, hp⟩
     ·have hg : (decide (stR r = 0) && !rtR r) = false := by
       cases r using ER.cs with
       | val v => exact absurd rfl (HNv.out v)
       | on => exact absurd rfl hrb
       | ret v => rfl
       | out c => rcases HOc.out c rfl with rfl | rfl <;> rfl
      rw [hg]
      go_wp2_with fail
      go_roundw
      case rel => exact ⟨0, vL2, vI2, vO2, vl2, z', rfl, HO2.out, HL2.out, HT2.out, .inr ⟨.inl rfl, HR2.out, HV2.out⟩⟩
      case measure => simp only [RowKit.intOf]; rw [HR2.out.fuel, HFu.out, wb_ne hu, wb_0]; have := HUb.out; omega
     ·have hR2 := HR2.out
      simp only [stR, rtR] at hR2
      have hg : (decide (stR .on = 0) && !rtR .on) = true := rfl
      rw [hg]
      go_wp2_with fail
      refine (spend0 hR2 hu0).mono ?_
      rintro x w4 ⟨⟨y, rfl⟩, hR4, t4⟩
      have y8 := (hR4.box 8 _ rfl).1
      have HR4 := hide hR4
      have HT4 := hide (HT2.out.next t4 (fun k hk => .inl (.inl (.inl hk))))
      clear hR4 t4 hR2
      go_wp2_with fail
      go_roundw
      case rel => exact ⟨0, vL2, vI2, vO2, vl2, z', rfl, HO2.out, HL2.out, HT4.out, .inr ⟨.inl rfl, HR4.out, fun v hv => by cases hv⟩⟩
      case measure => simp only [RowKit.intOf]; rw [HR4.out.fuel, HFu.out, wb_ne hu, wb_0]; have := HUb.out; omega
     ·have hR2 := HR2.out
      simp only [stR, rtR] at hR2
      have hg : (decide (stR .on = 0) && !rtR .on) = true := rfl
      rw [hg]
      have HHp := hide hp
      clear hp
      go_wp2_with fail
      refine (spend1 hR2 hu0 HFb.out).mono ?_
      rintro x w4 ⟨⟨y, rfl⟩, hR4, t4⟩
      have y8 := (hR4.box 8 _ rfl).1
      have HR4 := hide hR4
      have HT4 := hide (HT2.out.next t4 (fun k hk => .inl (.inl (.inl hk))))
      have hfr4 := HFr.out.tcs HBW.out HT4.out (fun hx => by have := HTS.out _ hx; omega)
      have k2 := (hfr4 2 _ rfl).1
      have hN4 : zb.sp.l.map Prod.fst = z.l.map Prod.fst := HNb.out
      have hu4 : zb.sp.u + 1 = zb.u := by simp only [ES.sp]; omega
      have hws4 : W.heap.size ≤ w4.heap.size := HT4.out.size
      clear hR4 t4 hR2 hfr4
      obtain ⟨m', rfl⟩ : ∃ m', m = m' + 1 := by
       cases m with
       | zero => exact absurd HHp.out (by intro h; first | cases h using Ev_i | cases h)
       | succ m' => exact ⟨m', rfl⟩
      have hm' : m' ≤ n := by have := HM.out; omega
      have hkk : s.kind ≠ 3 := by have := HSk.out; omega
      rcases ev_stmt HHp.out hkk with ⟨c, rfl, e5⟩ | ⟨v5, z5, e5, h5⟩
      ·have hc := e5.outc c rfl
       have HC5 := hide (HEx.out _ _ _ _ hm' e5 hN4 w4 vl2 vL2 vI2 vO2 HR4.out)
       have HU5 := hide e5.ou.1
       clear e5 hN4
       go_wp2_with fail
       refine HC5.out.mono ?_
       rintro x w5 ⟨u5, vI5, vO5, vl5, rfl, -, hR5, t5, ho5⟩
       have HR5 := hide hR5
       have HT5 := hide (HT4.out.next t5 (fun k hk => TSx.up HO2.out HL2.out k (.inl hk)))
       have HO5 : Hid (∀ k, vO5.ownBlock = some k → vO.ownBlock = some k ∨ W.heap.size ≤ k) := fun k hk => by
        rcases ho5 k hk with h1 | h1
        ·exact HO2.out k h1
        ·exact .inr (Nat.le_trans hws4 h1)
       clear hR5 t5 ho5
       go_wp2_with fail
       go_roundw
       case rel => exact ⟨u5, vL2, vI5, vO5, vl5, z', rfl, HO5.out, HL2.out, HT5.out, .inr ⟨.inr (by show c ≠ 0; omega), HR5.out, fun v hv => by cases hv⟩⟩
       case measure => simp only [RowKit.intOf]; rw [HR5.out.fuel, HFu.out, wb_ne hu]; have := HUb.out; have := HU5.out; have := wb_le u5; omega
      ·have h5' : Wh C.t C.fr m' s a b v5 z5 r z' := by
        have hs5 : s.kind = 5 := HSk.out.symm
        rcases h5 with ⟨h, -⟩ | ⟨h, -⟩ | ⟨h, -⟩ | ⟨h, -⟩ | ⟨h, -⟩ | ⟨h, -⟩ | ⟨-, h⟩
        ·omega
        ·omega
        ·omega
        ·omega
        ·omega
        ·omega
        ·exact h
       have HW5 := hide h5'
       have HC5 := hide (HEx.out _ _ _ _ hm' e5 hN4 w4 vl2 vL2 vI2 vO2 HR4.out)
       have HU5 := hide e5.ou
       have HZ5 : Hid (z5.l = zb.sp.l) := (e5.inv HR4.out.ok trivial).2.2.2.2.2
       have HN5 := hide hN4
       clear e5 hN4 h5 h5'
       go_wp2_with fail
       refine HC5.out.mono ?_
       rintro x w5 ⟨u5, vI5, vO5, vl5, rfl, hz, hR5, t5, ho5⟩
       obtain rfl : v5 = u5 := (hz v5 rfl).symm
       clear hz
       have HR5 := hide hR5
       have HT5 := hide (HT4.out.next t5 (fun k hk => TSx.up HO2.out HL2.out k (.inl hk)))
       have HO5 : Hid (∀ k, vO5.ownBlock = some k → vO.ownBlock = some k ∨ W.heap.size ≤ k) := fun k hk => by
        rcases ho5 k hk with h1 | h1
        ·exact HO2.out k h1
        ·exact .inr (Nat.le_trans hws4 h1)
       clear hR5 t5 ho5
       go_wp2_with fail
       go_roundw
       case rel =>
        refine ⟨v5, vL2, vI5, vO5, vl5, z5, rfl, HO5.out, HL2.out, HT5.out, ?_⟩
        by_cases hv : v5 = 0
        ·rcases HW5.out with ⟨-, rfl, rfl⟩ | ⟨h1, -⟩
         ·exact .inr ⟨.inl hv, HR5.out, fun v hv => by cases hv⟩
         ·exact absurd hv h1
        ·refine .inl ⟨hv, m', hm', HW5.out, HR5.out, by rw [HZ5.out]; exact HN5.out, ?_⟩
         have h1 := HU5.out.2.2
         have h2 := HOb.out.2.2
         have h3 := HL.out
         simp only [Tk.d] at h1 h2
         have h4 : zb.sp.l.length = zb.l.length := rfl
         omega
       case measure => simp only [RowKit.intOf]; rw [HR5.out.fuel, HFu.out, wb_ne hu]; have := HUb.out; have := HU5.out.1; have := wb_le v5; omega
    ·have HF := hide (HFin.out wr r z' vL1 vI1 vO1 vl1 hR hv HHt.out HHo.out HHl.out)
     by_cases hu0 : u = 0
     ·subst hu0
      clear hR hv hu
      go_wp2_with fail
      exact bodyPost_end (v := .tuple #[]) (by simp [results, Tryd.results72, go_sem]) rfl HF.out
     ·have hu' : (u != 0) = true := by simpa using hu0
      have hg : (decide (stR r = 0) && !rtR r) = false := by
       rcases hu with h | h
       ·exact absurd h hu0
       ·simp [h]
      have HRc := hide hR
      clear hR hv hu
      go_wp2_with fail
      refine (going_any HRc.out).mono ?_
      rintro x w2 ⟨rfl, hw2⟩
      rw [hw2, hg]
      clear hw2
      go_wp2_with fail
      exact bodyPost_end (v := .tuple #[]) (by simp [results, Tryd.results72, go_sem]) rfl HF.out
end
section
open Go.RowKit
def StS (C : RC) (n : Nat) : Prop := ∀ (s : St) (a b : List St) (z : ES) (r : ER) (z' : ES), Ev C.t C.fr n (.p s a b) z r z' → KnP C.t (z.l.map Prod.fst) s → Scp C.t (z.l.map Prod.fst) → stmtB s = true → s.e.length ≤ 1048576 → s.f.length ≤ 1048576 → (s.kind = 4 ∨ s.kind = 5 → OkB C.t (z.l.map Prod.fst) a ∧ OkB C.t (z.l.map Prod.fst) b) → (z.o.length : Int) + z.u + 1 ≤ C.F → z.l.length + z.u + 1 ≤ 200000 →
 ∀ (w : World) (vl : Int) (lb : List Nat) (vL vI vO ve vf va vb : Value) (vt vu : Int), RS C w 0 false vl lb vL vI vO z → Nodes C.w0 ve s.e → Nodes C.w0 vf s.f → Stmts C.w0 va a → Stmts C.w0 vb b →
 (s.kind = 3 → Calls Tryd.prog 71 #[.pointer (some ⟨C.P, 0, none⟩), .agg #[.int .i64 s.kind, .string s.name, ve, vf, .int .i64 vt, .int .i64 vu]] w fun x w' => PaP C w lb vL vO r z' x w') ∧
 (s.kind ≠ 3 → Calls Tryd.prog 72 #[.pointer (some ⟨C.P, 0, none⟩), .agg #[.int .i64 s.kind, .string s.name, ve, vf, .int .i64 vt, .int .i64 vu], va, vb] w fun x w' => PaP C w lb vL vO r z' x w')
theorem stmtB_parts {s : St} (h : stmtB s = true) : (1 ≤ s.kind ∧ s.kind ≤ 8) ∧ oneB s.e = true ∧ (s.kind = 3 → oneB s.f = true) := by
 unfold stmtB at h
 simp only [Bool.and_eq_true, decide_eq_true_eq] at h
 obtain ⟨⟨⟨⟨⟨⟨h1, -⟩, h2⟩, h3⟩, -⟩, -⟩, -⟩ := h
 refine ⟨h1, h2, fun hk => ?_⟩
 rw [if_pos hk] at h3
 exact h3
theorem stS_step (C : RC) (hC : C.Ok) (n : Nat) (IH : ExS C n) (IB : BlS C n) : StS C (n + 1) := by
 intro s a b z r z' hE hKn hsc hsB hl1 hl2 hab hou hlu w vl lb vL vI vO ve vf va vb vt vu h hNe hNf hSa hSb
 obtain ⟨hk, h1, h2⟩ := stmtB_parts hsB
 refine ⟨fun h3 => stS_store C hC n IH s a b z r z' hE h3 hKn hsc h1 (h2 h3) hl1 hl2 w vl lb vL vI vO ve vf vt vu h hNe hNf, fun h3 => ?_⟩
 by_cases h45 : s.kind = 4 ∨ s.kind = 5
 ·obtain ⟨hOa, hOb⟩ := hab h45
  exact stS_deep C hC n IH IB s a b z r z' hE h3 h45 hOa hOb hKn hsc h1 hl1 hou hlu w vl lb vL vI vO ve vf va vb vt vu h hNe ⟨_, _, _, hNf.choose_spec.choose_spec.1⟩ hSa hSb
 ·exact stS_plain C hC n IH s a b z r z' hE h3 ⟨fun h => h45 (.inl h), fun h => h45 (.inr h)⟩ hKn hsc h1 hl1 hou hlu w vl lb vL vI vO ve vf va vb vt vu h hNe ⟨_, _, _, hNf.choose_spec.choose_spec.1⟩ ⟨_, _, _, hSa.choose_spec.choose_spec.1⟩ ⟨_, _, _, hSb.choose_spec.choose_spec.1⟩
theorem ev_names {t : Tr} {fr : List Int} : ∀ (n : Nat) {s : St} {a b : List St} {z z' : ES}, Ev t fr n (.p s a b) z .on z' → OkW z → z'.l.map Prod.fst = scp s (z.l.map Prod.fst)
 | 0, _, _, _, _, _, h, _ => by first | cases h using Ev_i | cases h
 | n + 1, s, a, b, z, z', h, ho => by
  have key : ∀ {r z1}, Ev t fr n (.e s.e) z r z1 → OkW z1 ∧ z1.l = z.l := fun h1 => by
   have := h1.inv ho trivial
   exact ⟨this.1, this.2.2.2.2.2⟩
  have keyb : ∀ {ss z1 r z2}, Ev t fr n (.bl ss) z1 r z2 → OkW z1 → OkW z2 ∧ z2.l.map Prod.fst = z1.l.map Prod.fst := fun h1 h2 => by
   have := h1.inv h2 trivial
   exact ⟨this.1, this.2.2.2.2.2⟩
  by_cases hk : s.kind = 3
  ·have hs : scp s (z.l.map Prod.fst) = z.l.map Prod.fst := by unfold scp; rw [if_neg (by omega)]
   rw [hs]
   rcases ev_store h hk with ⟨c, hr, -⟩ | ⟨v, z1, e1, ⟨c, hr, -⟩ | ⟨x, z2, e2, ⟨-, hr, -⟩ | ⟨-, -, rfl⟩⟩⟩
   ·cases hr
   ·cases hr
   ·cases hr
   ·obtain ⟨o1, l1⟩ := key e1
    have l2 := (e2.inv o1 trivial).2.2.2.2.2
    have l2 : z2.l = z1.l := l2
    rw [(st_sh (t := t) (s := z2) (x := s.name) (j := v.toNat) (v := x)).2.2.1, l2, l1]
  ·rcases ev_stmt h hk with ⟨c, hr, -⟩ | ⟨v, z1, e1, h1⟩
   ·cases hr
   ·obtain ⟨o1, l1⟩ := key e1
    rcases h1 with ⟨k1, -, rfl⟩ | ⟨k1, -, rfl⟩ | ⟨k1, hr, -⟩ | ⟨k1, -, rfl⟩ | ⟨k1, -, rfl⟩ | ⟨k1, hb⟩ | ⟨k1, hw⟩
    ·unfold scp
     rw [if_pos k1]
     show (z1.l ++ [(s.name, v)]).map Prod.fst = _
     rw [l1]
     simp
    ·unfold scp
     rw [if_neg (by omega), (wr_sh (t := t) (s := z1) (x := s.name) (v := v)).2.2.1, l1]
    ·cases hr
    ·unfold scp
     rw [if_neg (by omega)]
     show z1.l.map Prod.fst = _
     rw [l1]
    ·unfold scp
     rw [if_neg (by omega), l1]
    ·have hs : scp s (z.l.map Prod.fst) = z.l.map Prod.fst := by unfold scp; rw [if_neg (by omega)]
     rw [hs]
     rcases hb with ⟨-, hb⟩ | ⟨-, hb⟩
     ·rw [(keyb hb o1).2, l1]
     ·rw [(keyb hb o1).2, l1]
    ·have hs : scp s (z.l.map Prod.fst) = z.l.map Prod.fst := by unfold scp; rw [if_neg (by omega)]
     rw [hs]
     rcases hw with ⟨-, -, rfl⟩ | ⟨-, rb, zb, hb, ⟨h1, h2, -⟩ | ⟨-, -, h2, -⟩ | ⟨-, -, hp⟩⟩
     ·rw [l1]
     ·exact absurd h2.symm h1
     ·cases h2
     ·obtain ⟨ob, lb⟩ := keyb hb o1
      have := ev_names n hp ⟨ob.g, ob.l, ob.i⟩
      rw [this]
      unfold scp
      rw [if_neg (by omega)]
      show zb.l.map Prod.fst = _
      rw [lb, l1]
theorem OkB.cons {t : Tr} {sc : List ByteArray} {s : St} {q : List St} (h : OkB t sc (s :: q)) : KnP t sc s ∧ (s.kind = 4 ∨ s.kind = 5 → OkB t sc (q.take s.thn.toNat) ∧ OkB t sc ((q.drop s.thn.toNat).take s.els.toNat)) ∧ OkB t (scp s sc) (q.drop (s.thn.toNat + s.els.toNat)) ∧ (0 ≤ s.thn ∧ s.thn ≤ q.length ∧ 0 ≤ s.els ∧ s.els ≤ q.length - s.thn) := by
 obtain ⟨⟨tk, h1, h2⟩, h3, h4, h5⟩ := h.snd.cons
 have hf := h.fit
 rw [fitB_cons, Bool.and_eq_true, Bool.and_eq_true, Bool.and_eq_true, decide_eq_true_iff] at hf
 obtain ⟨hp, f1, f2, f3⟩ := hf
 have hln := h.ln
 simp only [List.length_cons] at hln
 refine ⟨stmt_kn h2 h1, fun h45 => ?_, ⟨h5, fun x hx => h.ok x (List.mem_cons_of_mem _ (List.mem_of_mem_drop hx)), f3, by simp; omega⟩, hp⟩
 have hs : scp s sc = sc := by unfold scp; rw [if_neg (by omega)]
 rw [hs] at h3 h4
 refine ⟨⟨h3, fun x hx => h.ok x (List.mem_cons_of_mem _ (List.mem_of_mem_take hx)), f1, by simp; omega⟩, h4, fun x hx => h.ok x (List.mem_cons_of_mem _ (List.mem_of_mem_drop (List.mem_of_mem_take hx))), ?_, by simp; omega⟩
 have e : (q.take (s.thn.toNat + s.els.toNat)).drop s.thn.toNat = (q.drop s.thn.toNat).take s.els.toNat := by
  rw [List.drop_take]; congr 1; omega
 rw [← e]
 exact f2
theorem own_less {w : World} {B size n d cap : Nat} {e : TypeId} {a : Option Addr} {xs : List Value} (h : w.ownsRow B e size (.slice a n cap) n xs) (hd : d ≤ n) : w.ownsRow B e size (.slice a d cap) d (xs.take (d * size)) := by
 have hm : d * size ≤ n * size := Nat.mul_le_mul_right _ hd
 obtain ⟨h1, h2⟩ := h
 refine ⟨by rw [List.length_take]; omega, ?_⟩
 rcases h2 with ⟨e1, e2⟩ | ⟨g, c2, cur, e1, p1, p2, p3, p4, p5, p6⟩
 ·simp only [Value.slice.injEq] at e1
  obtain ⟨rfl, -, rfl⟩ := e1
  obtain rfl : d = 0 := by omega
  exact .inl ⟨rfl, rfl⟩
 ·simp only [Value.slice.injEq] at e1
  obtain ⟨rfl, -, rfl⟩ := e1
  refine .inr ⟨g, cap, cur, rfl, p1, p2, by omega, p4, p5, ?_⟩
  rw [← p6, List.take_take, Nat.min_eq_left hm]
theorem RS.cutL {C : RC} {w : World} {c : Int} {rt : Bool} {vl : Int} {lb m : List Nat} {a : Option Addr} {n cap : Nat} {vI vO : Value} {s s' : ES} (h : RS C w c rt vl (lb ++ m) (.slice a n cap) vI vO s) (hn : n = s.l.length) (hs : s' = { s with l := s.l.take lb.length }) :
  RS C (w.setCell ⟨C.P, 3, none⟩ (.slice a lb.length cap)) c rt vl lb (.slice a lb.length cap) vI vO s' := by
 obtain ⟨p1, p2, p3, p4⟩ := h.hi
 subst hn
 have hll := h.ll
 rw [List.length_append] at hll
 have ht : Tcs (fun k => k = C.P) w (w.setCell ⟨C.P, 3, none⟩ (.slice a lb.length cap)) := (Tcs.refl (fun k => k = C.P) w).setCell (p := ⟨C.P, 3, none⟩) rfl _
 have hnd := h.nd
 unfold RC.K at hnd
 have hPn : C.P ∉ C.bG :: (C.gb ++ (lb ++ m)) := (List.nodup_cons.1 hnd).1
 have hsub : ∀ k, k ∈ C.K lb → k ∈ C.K (lb ++ m) := fun k hk => by
  unfold RC.K at hk ⊢
  simp only [List.mem_cons, List.mem_append] at hk ⊢
  rcases hk with h | h | h | h
  ·exact .inl h
  ·exact .inr (.inl h)
  ·exact .inr (.inr (.inl h))
  ·exact .inr (.inr (.inr (.inl h)))
 have hgb : ∀ k (hk : k < C.gb.length), C.gb[k] ≠ C.P := fun k hk e => hPn (e ▸ List.mem_cons_of_mem _ (List.mem_append_left _ (List.getElem_mem hk)))
 have hlb : ∀ k (hk : k < (lb ++ m).length), (lb ++ m)[k] ≠ C.P := fun k hk e => hPn (e ▸ List.mem_cons_of_mem _ (List.mem_append_right _ (List.getElem_mem hk)))
 have hGP : C.bG ≠ C.P := fun e => hPn (e ▸ List.mem_cons_self ..)
 have hc : ∀ o, (w.setCell ⟨C.P, 3, none⟩ (.slice a lb.length cap)).cell? ⟨C.bG, o, none⟩ = w.cell? ⟨C.bG, o, none⟩ := fun o => World.cell?_of_block (ht.block C.bG p2 hGP)
 have hbx := h.box.set 3 (.slice a lb.length cap)
 have hown : ∀ k, (Value.slice a lb.length cap).ownBlock = some k → (Value.slice a s.l.length cap).ownBlock = some k := fun k hk => by
  cases a with
  | none => cases hk
  | some a => exact hk
 subst hs
 refine ⟨ht.below h.bel h.bel.size (fun k hk => by omega), hbx, fun k h1 h2 => ⟨(hc _).trans (h.grow k h1 h2).1, (hc _).trans (h.grow k h1 h2).2⟩, h.gl, fun k h1 => (h.gw k h1).tcs (h.rng _ (RS.gK k h1)).2 ht (hgb k h1), h.g1, ?_, ?_, fun j h1 h2 => ?_, h.inp, own_notU h.out ht (fun k hk hs => (h.oo k hk).1 (by have e : k = C.P := hs; rw [e]; exact RC.memP)), ?_, fun k hk => ⟨(h.rng k (hsub k hk)).1, Nat.lt_of_lt_of_le (h.rng k (hsub k hk)).2 ht.size⟩, fun k hk hm => h.lo k (hown k hk) (hsub k hm), fun k hk => ⟨fun hm => (h.oo k hk).1 (hsub k hm), fun e => (h.oo k hk).2 (hown k e)⟩, ⟨h.ok.g, fun x hx => h.ok.l x (List.mem_of_mem_take hx), h.ok.i⟩, h.uu, ?_, h.nn⟩
 ·show lb.length = (s.l.take lb.length).length
  rw [List.length_take]; omega
 ·show World.ownsRow _ _ _ _ _ (s.l.take lb.length).length (flatV (s.l.take lb.length) lb)
  have e1 : (s.l.take lb.length).length = lb.length := by rw [List.length_take]; omega
  have e2 : flatV (s.l.take lb.length) lb = (flatV s.l (lb ++ m)).take (lb.length * 2) := by
   rw [flatV_take lb.length h.ll]
   congr 1
   simp
  rw [e1, e2]
  exact own_notU (own_less h.lrow (by omega)) ht (fun k hk hs => h.lo k (hown k hk) (by have e : k = C.P := hs; rw [e]; exact RC.memP))
 ·have h2 : j < (s.l.take lb.length).length := h2
  have hj : j < (lb ++ m).length := by rw [List.length_append]; omega
  have hjs : j < s.l.length := by rw [List.length_take] at h2; omega
  have e1 : lb[j] = (lb ++ m)[j] := (List.getElem_append_left h1).symm
  show FrC _ lb[j] [.int .i64 ((s.l.take lb.length)[j]).2]
  rw [List.getElem_take, e1]
  exact (h.lw j hj hjs).tcs (h.rng _ (RS.lK j hj)).2 ht (hlb j hj)
 ·refine List.Nodup.sublist ?_ h.nd
  unfold RC.K
  exact List.Sublist.cons_cons _ (List.Sublist.cons_cons _ (List.Sublist.append (List.Sublist.refl _) (List.sublist_append_left _ _)))
 ·show (s.l.take lb.length).length ≤ _
  have := h.lm
  rw [List.length_take]; omega
theorem lcut_run (a : Option Addr) (n cap k : Nat) (h2 : k ≤ n) (h3 : n ≤ cap) : ∀ w : World, (Instr.slice 67 (.slice a n cap) none (some (.int .i64 (k : Int))) none).run Tryd.prog w = .ok (.slice a k cap) w := by
 intro w
 have hz : Tryd.prog.elem 67 = 71 := by kernel_rfl
 have hs : (sizeOf 71).run Tryd.prog w = .ok 2 w := by kernel_rfl
 rw [run_slice_h w 67 a n cap (by rw [hz]; exact Tryd.underlying67) .i64 _ (by omega) (by omega), hz, hs]
 cases a <;> simp [Result.andThen, sliced, Addr.add]
end
section
open Go.RowKit
theorem own_cap {w : World} {B size n cap : Nat} {e : TypeId} {a : Option Addr} {xs : List Value} (h : w.ownsRow B e size (.slice a n cap) n xs) : n ≤ cap := by
 rcases h.2 with ⟨e1, e2⟩ | ⟨g, c2, cur, e1, p1, p2, p3, p4, p5, p6⟩
 ·omega
 ·simp only [Value.slice.injEq] at e1
  obtain ⟨-, -, rfl⟩ := e1
  exact p3
theorem ev_seq {t : Tr} {fr : List Int} {j : Nat} {s : St} {q : List St} {z : ES} {r : ER} {z' : ES} (h : Ev t fr j (.sq (s :: q)) z r z') : (z.u = 0 ∧ r = .out 2 ∧ z' = z) ∨ (0 < z.u ∧ ∃ j1 r1 z1, j = j1 + 1 ∧ Ev t fr j1 (.p s (q.take s.thn.toNat) ((q.drop s.thn.toNat).take s.els.toNat)) z.sp r1 z1 ∧ ((r1 ≠ .on ∧ r = r1 ∧ z' = z1) ∨ (r1 = .on ∧ Ev t fr j1 (.sq (q.drop (s.thn.toNat + s.els.toNat))) z1 r z'))) := by
 cases h using Ev_i with
 | sdry _ _ _ _ h1 => exact .inl ⟨h1, rfl, rfl⟩
 | send _ _ _ _ _ _ h1 h2 h3 => exact .inr ⟨h1, _, _, _, rfl, h2, .inl ⟨h3, rfl, rfl⟩⟩
 | next _ _ _ _ z1 _ _ h1 h2 h3 => exact .inr ⟨h1, _, _, _, rfl, h2, .inr ⟨rfl, h3⟩⟩
theorem TSx.up2 {C : RC} {N : Nat} {lb m : List Nat} {vL vO vL1 vO1 : Value} (hm : ∀ b ∈ m, N ≤ b) (ho : ∀ k, vO1.ownBlock = some k → vO.ownBlock = some k ∨ N ≤ k) (hl : ∀ k, vL1.ownBlock = some k → vL.ownBlock = some k ∨ N ≤ k) : ∀ k, TSx C (lb ++ m) vL1 vO1 k → TSx C lb vL vO k ∨ N ≤ k := fun k hk => by
 rcases hk with (hk | hk | hk) | hk | hk
 ·exact .inl (.inl (.inl hk))
 ·exact .inl (.inl (.inr (.inl hk)))
 ·exact (ho k hk).imp_left (fun h => .inl (.inr (.inr h)))
 ·rcases List.mem_append.1 hk with hk | hk
  ·exact .inl (.inr (.inl hk))
  ·exact .inr (hm k hk)
 ·exact (hl k hk).imp_left (fun h => .inr (.inr h))
def BI (C : RC) (n : Nat) (ss : List St) (r : ER) (z2 : ES) (w : World) (lb : List Nat) (vL vO : Value) (i : Value) (wr : World) : Prop := ∃ (k : Nat) (vl1 : Int) (m : List Nat) (vL1 vI1 vO1 : Value) (zc : ES), i = .int .i64 k ∧ k ≤ ss.length ∧ (∀ k, vO1.ownBlock = some k → vO.ownBlock = some k ∨ w.heap.size ≤ k) ∧ (∀ k, vL1.ownBlock = some k → vL.ownBlock = some k ∨ w.heap.size ≤ k) ∧ (∀ b ∈ m, w.heap.size ≤ b) ∧ Tcs (TSx C lb vL vO) w wr ∧
  ((∃ j, j ≤ n ∧ Ev C.t C.fr j (.sq (ss.drop k)) zc r z2 ∧ RS C wr 0 false vl1 (lb ++ m) vL1 vI1 vO1 zc ∧ OkB C.t (zc.l.map Prod.fst) (ss.drop k) ∧ Scp C.t (zc.l.map Prod.fst) ∧ zc.l.length + zc.u ≤ 200000) ∨ ((decide (stR r = 0) && !rtR r) = false ∧ RS C wr (stR r) (rtR r) vl1 (lb ++ m) vL1 vI1 vO1 z2 ∧ ∀ v, r = .ret v → vl1 = v))
set_option maxRecDepth 100000 in
set_option maxHeartbeats 8000000 in
theorem blS_step (C : RC) (hC : C.Ok) (n : Nat) (IS : StS C n) : BlS C (n + 1) := by
 intro ss z r z' hE hO hsc hlu w vl lb vL vI vO vs h hS
 obtain ⟨z2, hE2, hz'⟩ : ∃ z2, Ev C.t C.fr n (.sq ss) z r z2 ∧ z' = { z2 with l := z2.l.take z.l.length } := by
  cases hE using Ev_i with
  | blk _ _ _ _ z2 h1 => exact ⟨z2, h1, rfl⟩
 obtain ⟨ab, cb, rfl, hbc1, hbc2, hbc⟩ := hS
 have HS : Hid (Stmts C.w0 (.slice ab ss.length cb) ss) := ⟨ab, cb, rfl, hbc1, hbc2, hbc⟩
 have HBC := hide hbc
 have hlb := h.ll
 have HRS := hide h
 have hln := hO.ln
 have HFb := hide hC.fu
 have HIS := hide IS
 have hzl : z.l.length ≤ 200000 := h.lm
 obtain ⟨La0, Lc0, eL0, -⟩ := own_shapeU h.lrow
 have y3 := (h.box 3 _ rfl).1
 have HFin : Hid (∀ (wX : World) (vlx : Int) (mx : List Nat) (vLx vIx vOx : Value), RS C wX (stR r) (rtR r) vlx (lb ++ mx) vLx vIx vOx z2 → (∀ v, r = .ret v → vlx = v) → Tcs (TSx C lb vL vO) w wX → (∀ k, vOx.ownBlock = some k → vO.ownBlock = some k ∨ w.heap.size ≤ k) → (∀ k, vLx.ownBlock = some k → vL.ownBlock = some k ∨ w.heap.size ≤ k) → ∃ La ll Lc, vLx = .slice La ll Lc ∧ wX.cell? ⟨C.P, 3, none⟩ = some (.slice La ll Lc) ∧ wX.frozen? ⟨C.P, 3, none⟩ = false ∧ (∀ w : World, (Instr.slice 67 (.slice La ll Lc) none (some (.int .i64 (z.l.length : Int))) none).run Tryd.prog w = .ok (.slice La z.l.length Lc) w) ∧ BlP C w lb vL vO r z' (.returned (.tuple #[])) (wX.setCell ⟨C.P, 3, none⟩ (.slice La z.l.length Lc))) := fun wX vlx mx vLx vIx vOx hR hv ht ho hl => by
  obtain ⟨La, Lc, rfl, -⟩ := own_shapeU hR.lrow
  have hcap := own_cap hR.lrow
  have hll := hR.ll
  rw [List.length_append] at hll
  refine ⟨La, _, Lc, rfl, (hR.box 3 _ rfl).1, (hR.box 3 _ rfl).2, lcut_run La _ Lc _ (by omega) hcap, ⟨_, rfl⟩, .slice La z.l.length Lc, vIx, vOx, vlx, ?_, hv, ht.setCell (p := ⟨C.P, 3, none⟩) (.inl (.inl rfl)) _, ho, fun k hk => hl k ?_⟩
  ·have := hR.cutL rfl (s' := z') (by rw [hz', ← hlb])
   rw [hlb] at this
   exact this
  ·cases La with
   | none => cases hk
   | some a => exact hk
 subst eL0
 have HO := hide hO
 have HSc := hide hsc
 have HE := hide hE2
 clear IS hE hC hO hsc hbc hE2 h hz'
 go_enter Tryd.func54, Tryd.ntmps54
 go_wp2_with fail
 go_loopw [5] (fun i wr => BI C n ss r z2 w lb (.slice La0 z.l.length Lc0) vO i wr) (fun i _ => ss.length - (RowKit.intOf i).toNat)
 case atStart => exact ⟨0, vl, [], _, vI, vO, z, rfl, Nat.zero_le _, fun k hk => .inl hk, fun k hk => .inl hk, fun b hb => by simp at hb, Tcs.refl _ _, .inl ⟨n, Nat.le_refl _, HE.out, by simpa using HRS.out, HO.out, HSc.out, hlu⟩⟩
 case round =>
  clear HO HSc HE hlu y3
  obtain ⟨k, vl1, m, vL1, vI1, vO1, zc, rfl, hk, ho, hl, hm, ht, hst⟩ := hrel
  have HHo := hide ho
  have HHl := hide hl
  have HHm := hide hm
  have HHt := hide ht
  have hws : w.heap.size ≤ wr.heap.size := ht.size
  clear ho hl hm ht
  by_cases hlt : k < ss.length
  ·have hki : (k : Int) < (ss.length : Int) := by omega
   rcases hst with ⟨j, hj, he, hR, hOk, hSc, hL⟩ | ⟨hg, hR, hv⟩
   ·obtain ⟨b, off, rfl, hc⟩ := HBC.out (by omega)
    obtain ⟨ve, vf2, ⟨c0, c1, c2, c3, c4, c5⟩, hne, hnf⟩ := hc k hlt
    have hbw : b < C.w0.heap.size := World.block_lt_of_cell? _ _ c0
    replace c0 := (hR.bel.cell (p := ⟨b, _, none⟩) hbw).trans c0
    replace c1 := (hR.bel.cell (p := ⟨b, _, none⟩) hbw).trans c1
    replace c2 := (hR.bel.cell (p := ⟨b, _, none⟩) hbw).trans c2
    replace c3 := (hR.bel.cell (p := ⟨b, _, none⟩) hbw).trans c3
    replace c4 := (hR.bel.cell (p := ⟨b, _, none⟩) hbw).trans c4
    replace c5 := (hR.bel.cell (p := ⟨b, _, none⟩) hbw).trans c5
    have hbr : b < wr.heap.size := Nat.lt_of_lt_of_le hbw hR.bel.size
    have hdc : ss.drop k = ss[k] :: ss.drop (k + 1) := (List.getElem_cons_drop hlt).symm
    rw [hdc] at he hOk
    have hsB := hOk.ok ss[k] (List.mem_cons_self ..)
    obtain ⟨hKn, h45, hOr, p1, p2, p3, p4⟩ := hOk.cons
    have hrl : (ss.drop (k + 1)).length = ss.length - (k + 1) := by simp
    rw [hrl] at p2 p4
    have HRl := hide hR.ll
    obtain ⟨a3, k3, hv3, -⟩ := id hne
    obtain ⟨a4, k4, hv4, -⟩ := id hnf
    subst hv3
    subst hv4
    clear hc hdc
    generalize ss[k] = s at c0 c1 c2 c3 c4 c5 he hOk hsB hKn h45 hOr p1 p2 p3 p4 hne hnf
    obtain ⟨tn, htn⟩ := Int.eq_ofNat_of_zero_le p1
    obtain ⟨ln, hln2⟩ := Int.eq_ofNat_of_zero_le p3
    have ht1 : s.thn.toNat = tn := by omega
    have ht2 : s.els.toNat = ln := by omega
    have hltn : k + 1 + tn ≤ ss.length := by omega
    have hlln : k + 1 + tn + ln ≤ ss.length := by omega
    obtain ⟨a5, k5, hr5, hs5⟩ : ∃ a5 k5, (∀ w : World, (Instr.slice 35 (.slice (some ⟨b, off, none⟩) ss.length cb) (some (.int .i64 ((k : Int) + 1))) (some (.int .i64 ((k : Int) + 1 + (tn : Int)))) none).run Tryd.prog w = .ok (.slice a5 tn k5) w) ∧ Stmts C.w0 (.slice a5 tn k5) ((ss.drop (k + 1)).take tn) := by
     have h := cut_run2 (some ⟨b, off, none⟩) ss.length cb (k + 1) (k + 1 + tn) (by omega) (by omega) (by omega) ((k : Int) + 1) ((k : Int) + 1 + (tn : Int)) (by omega) (by omega)
     have h' := HS.out.cut (k + 1) (k + 1 + tn) (by omega) (by omega)
     rw [show k + 1 + tn - (k + 1) = tn by omega] at h h'
     rw [List.drop_take, show k + 1 + tn - (k + 1) = tn by omega] at h'
     exact ⟨_, _, h, h'⟩
    obtain ⟨a6, k6, hr6, hs6⟩ : ∃ a6 k6, (∀ w : World, (Instr.slice 35 (.slice (some ⟨b, off, none⟩) ss.length cb) (some (.int .i64 ((k : Int) + 1 + (tn : Int)))) (some (.int .i64 ((k : Int) + 1 + (tn : Int) + (ln : Int)))) none).run Tryd.prog w = .ok (.slice a6 ln k6) w) ∧ Stmts C.w0 (.slice a6 ln k6) (((ss.drop (k + 1)).drop tn).take ln) := by
     have h := cut_run2 (some ⟨b, off, none⟩) ss.length cb (k + 1 + tn) (k + 1 + tn + ln) (by omega) (by omega) (by omega) ((k : Int) + 1 + (tn : Int)) ((k : Int) + 1 + (tn : Int) + (ln : Int)) (by omega) (by omega)
     have h' := HS.out.cut (k + 1 + tn) (k + 1 + tn + ln) (by omega) (by omega)
     rw [show k + 1 + tn + ln - (k + 1 + tn) = ln by omega] at h h'
     rw [List.drop_take, show k + 1 + tn + ln - (k + 1 + tn) = ln by omega] at h'
     rw [List.drop_drop]
     exact ⟨_, _, h, h'⟩
    obtain ⟨B0, hB0⟩ : ∃ B0, B0 = wr.alloc (.cells #[.int .i64 s.kind, .string s.name, .slice a3 s.e.length k3, .slice a4 s.f.length k4, .int .i64 tn, .int .i64 ln] 34) := ⟨_, rfl⟩
    obtain ⟨M, hM⟩ : ∃ M, M = wr.heap.size := ⟨_, rfl⟩
    have hbB : Below wr.heap.size wr B0 := by rw [hB0]; exact (Below.refl _ _).alloc (Nat.le_refl _) _
    have hMB : M < B0.heap.size := by rw [hB0, hM, World.size_alloc]; omega
    have hfr : FrC B0 M [.int .i64 s.kind, .string s.name, .slice a3 s.e.length k3, .slice a4 s.f.length k4, .int .i64 tn, .int .i64 ln] := by
     rw [hB0, hM]
     exact box_fr wr #[.int .i64 s.kind, .string s.name, .slice a3 s.e.length k3, .slice a4 s.f.length k4, .int .i64 tn, .int .i64 ln] _ (by show 6 ≤ 1000; omega)
    have HRc := hide hR
    have HRB := hide (hR.below hbB)
    have hPM : C.P < M := by rw [hM]; exact hR.hi.1
    have HFr := hide hfr
    have HT0 := hide (HHt.out.of_below hbB)
    have hw2 : IntKind.i64.wrap ((k : Int) + 1) = (k : Int) + 1 := by simp [IntKind.wrap, IntKind.bits, IntKind.signed]; omega
    have hw3 : IntKind.i64.wrap ((k : Int) + 1 + (tn : Int)) = (k : Int) + 1 + (tn : Int) := by simp [IntKind.wrap, IntKind.bits, IntKind.signed]; omega
    have hw6 : IntKind.i64.wrap ((k : Int) + 1 + (tn : Int) + (ln : Int)) = (k : Int) + 1 + (tn : Int) + (ln : Int) := by simp [IntKind.wrap, IntKind.bits, IntKind.signed]; omega
    rw [htn] at c4
    rw [hln2] at c5
    have HEv := hide he
    have HSb := hide hsB
    have HKn := hide hKn
    have H45 := hide h45
    have HOr := hide hOr
    have HSc := hide hSc
    have HL := hide hL
    have HTN := hide (And.intro ht1 ht2)
    have HS5 := hide hs5
    have HS6 := hide hs6
    have HNe := hide hne
    have HNf := hide hnf
    have HMB := hide hMB
    have HJ := hide hj
    have HMw := hide hM
    clear he hsB hKn h45 hOr hSc hL hs5 hs6 hne hnf hOk p1 p2 p3 p4 htn hln2 ht1 ht2 hR hbB hfr hj
    go_wp2_with fail
    refine (going_any HRc.out).mono ?_
    rintro x w2 ⟨rfl, hw2'⟩
    rw [hw2']
    clear hw2'
    go_wp2_with fail
    rw [← hB0, ← hM]
    clear hB0 hM c0 c1 c2 c3 c4 c5 hr5 hr6
    rcases ev_seq HEv.out with ⟨hu0, rfl, rfl⟩ | ⟨hu0, j1, r1, z1, rfl, hp, hr⟩
    ·refine (spend0 HRB.out hu0).mono ?_
     rintro x w3 ⟨⟨y, rfl⟩, hR3, t3⟩
     have y8 := (hR3.box 8 _ rfl).1
     obtain ⟨La, ll, Lc, rfl, x3, f3, hcut, hB⟩ := HFin.out w3 vl1 m vL1 vI1 vO1 hR3 (fun v hv => by cases hv) (HT0.out.next t3 (fun k hk => .inl (.inl (.inl hk)))) HHo.out HHl.out
     have HF := hide hB
     clear hB hR3 t3
     go_wp2_with fail
     exact bodyPost_end (v := .tuple #[]) (by simp [results, Tryd.results54, go_sem]) rfl HF.out
    ·refine (spend1 HRB.out hu0 HFb.out).mono ?_
     rintro x w3 ⟨⟨y, rfl⟩, hR3, t3⟩
     have y8 := (hR3.box 8 _ rfl).1
     have hfr3 := HFr.out.tcs hMB t3 (fun e => by omega)
     have q0 := (hfr3 0 _ rfl).1
     have q1 := (hfr3 1 _ rfl).1
     have q2 := (hfr3 2 _ rfl).1
     have q3 := (hfr3 3 _ rfl).1
     have q4 := (hfr3 4 _ rfl).1
     have q5 := (hfr3 5 _ rfl).1
     have hT3 := HT0.out.next t3 (fun k hk => .inl (.inl (.inl hk)))
     have hM3 : M < w3.heap.size := Nat.lt_of_lt_of_le hMB t3.size
     have hjj := HJ.out
     have hsu : zc.sp.u + 1 = zc.u := by simp only [ES.sp]; omega
     have hTN := HTN.out
     have hpp := hp
     rw [hTN.1, hTN.2] at hpp hr
     have h45 := H45.out
     rw [hTN.1, hTN.2] at h45
     have hOr := HOr.out
     rw [hTN.1, hTN.2] at hOr
     have hcall := HIS.out s _ _ zc.sp r1 z1 (hpp.ups (by omega)) HKn.out HSc.out HSb.out.1 HSb.out.2.1 HSb.out.2.2 h45 (by have := HRc.out.uu.2; have e : zc.sp.o = zc.o := rfl; rw [e]; omega) (by have := HL.out; have e : zc.sp.l = zc.l := rfl; rw [e]; omega) w3 vl1 (lb ++ m) vL1 vI1 vO1 _ _ _ _ (tn : Int) (ln : Int) hR3 HNe.out HNf.out HS5.out HS6.out
     have HPost : Hid (∀ x w4, PaP C w3 (lb ++ m) vL1 vO1 r1 z1 x w4 → (∃ y, x = .returned y) ∧ w4.cell? ⟨M, 4, none⟩ = some (.int .i64 tn) ∧ w4.cell? ⟨M, 5, none⟩ = some (.int .i64 ln) ∧ BI C n ss r z2 w lb (.slice La0 z.l.length Lc0) vO (.int .i64 ((k + 1 + tn + ln : Nat) : Int)) w4) := fun x w4 hx => by
      obtain ⟨hy, lb4, vL4, vI4, vO4, vl4, hR4, hv4, ⟨m4, rfl, hm4⟩, t4, ho4, hl4⟩ := hx
      have hfr4 := hfr3.tcs hM3 t4 (fun e => by have := TSx.lt HRc.out _ e; have := HMw.out; omega)
      have hw3s : w.heap.size ≤ w3.heap.size := hT3.size
      refine ⟨hy, (hfr4 4 _ rfl).1, (hfr4 5 _ rfl).1, k + 1 + tn + ln, vl4, m ++ m4, vL4, vI4, vO4, z1, rfl, hlln, fun k hk => ?_, fun k hk => ?_, fun b hb => ?_, hT3.next t4 (TSx.up2 HHm.out HHo.out HHl.out), ?_⟩
      ·rcases ho4 k hk with h1 | h1
       ·exact HHo.out k h1
       ·exact .inr (Nat.le_trans hw3s h1)
      ·rcases hl4 k hk with h1 | h1
       ·exact HHl.out k h1
       ·exact .inr (Nat.le_trans hw3s h1)
      ·rcases List.mem_append.1 hb with hb | hb
       ·exact HHm.out b hb
       ·exact Nat.le_trans hw3s (hm4 b hb)
      ·rw [List.append_assoc] at hR4
       rcases hr with ⟨hne, rfl, rfl⟩ | ⟨rfl, hsq⟩
       ·refine .inr ⟨?_, hR4, hv4⟩
        cases r using ER.cs with
        | val v => exact absurd rfl (hp.nov rfl v)
        | on => exact absurd rfl hne
        | ret v => rfl
        | out c => rcases hp.outc c rfl with rfl | rfl <;> rfl
       ·have hnm0 : z1.l.map Prod.fst = scp s (zc.sp.l.map Prod.fst) := ev_names _ hp hR3.ok
        have hnm : z1.l.map Prod.fst = scp s (zc.l.map Prod.fst) := hnm0
        refine .inl ⟨j1, by omega, ?_, hR4, ?_, ?_, ?_⟩
        ·rw [List.drop_drop] at hsq
         rw [show k + 1 + tn + ln = k + 1 + (tn + ln) by omega]
         exact hsq
        ·rw [hnm, show k + 1 + tn + ln = k + 1 + (tn + ln) by omega, ← List.drop_drop]
         exact hOr
        ·rw [hnm]
         exact HSc.out.add HKn.out
        ·have h1 := hp.ou.2.2
         have h2 := HL.out
         simp only [Tk.d] at h1
         have e : zc.sp.l = zc.l := rfl
         rw [e] at h1
         omega
     have HCs := hide hcall.1
     have HCn := hide hcall.2
     clear hcall hR3 t3 hfr3 hT3 hpp hp hr h45 hOr hTN hsu hjj HEv
     by_cases hk3 : s.kind = 3
     ·have HC3 := hide (HCs.out hk3)
      rw [hk3] at q0 HC3
      clear hk3 HCs HCn
      go_wp2_with fail
      refine HC3.out.mono ?_
      intro x w4 hx
      obtain ⟨⟨y, rfl⟩, q4, q5, hBI⟩ := HPost.out x w4 hx
      have HBI := hide hBI
      clear hBI hx q0 q1 q2 q3
      go_wp2_with fail
      go_roundw
      case rel =>
       have := HBI.out
       rw [show ((k + 1 + tn + ln : Nat) : Int) = (k : Int) + 1 + (tn : Int) + (ln : Int) by omega] at this
       exact this
      case measure => simp [RowKit.intOf]; omega
     ·have HC3 := hide (HCn.out hk3)
      have hk3' : (s.kind == 3) = false := by simpa using hk3
      clear hk3 HCs HCn
      go_wp2_with fail
      refine HC3.out.mono ?_
      intro x w4 hx
      obtain ⟨⟨y, rfl⟩, q4, q5, hBI⟩ := HPost.out x w4 hx
      have HBI := hide hBI
      clear hBI hx q0 q1 q2 q3
      go_wp2_with fail
      go_roundw
      case rel =>
       have := HBI.out
       rw [show ((k + 1 + tn + ln : Nat) : Int) = (k : Int) + 1 + (tn : Int) + (ln : Int) by omega] at this
       exact this
      case measure => simp [RowKit.intOf]; omega
   ·obtain ⟨La, ll, Lc, rfl, x3, f3, hcut, hB⟩ := HFin.out wr vl1 m vL1 vI1 vO1 hR hv HHt.out HHo.out HHl.out
    have HF := hide hB
    have HRc := hide hR
    clear hB hR hv
    go_wp2_with fail
    refine (going_any HRc.out).mono ?_
    rintro x w2 ⟨rfl, hw2⟩
    rw [hw2, hg]
    clear hw2
    go_wp2_with fail
    exact bodyPost_end (v := .tuple #[]) (by simp [results, Tryd.results54, go_sem]) rfl HF.out
  ·obtain rfl : k = ss.length := by omega
   have hfin : RS C wr (stR r) (rtR r) vl1 (lb ++ m) vL1 vI1 vO1 z2 ∧ ∀ v, r = .ret v → vl1 = v := by
    rcases hst with ⟨j, hj, he, hR, hOk, hSc, hL⟩ | ⟨hg, hR, hv⟩
    ·rw [List.drop_length] at he
     cases he using Ev_i with
     | nil => exact ⟨hR, fun v hv => by cases hv⟩
    ·exact ⟨hR, hv⟩
   obtain ⟨La, ll, Lc, rfl, x3, f3, hcut, hB⟩ := HFin.out wr vl1 m vL1 vI1 vO1 hfin.1 hfin.2 HHt.out HHo.out HHl.out
   have HF := hide hB
   have hki : ¬ (ss.length : Int) < (ss.length : Int) := by omega
   clear hB hfin hst
   go_wp2_with fail
   exact bodyPost_end (v := .tuple #[]) (by simp [results, Tryd.results54, go_sem]) rfl HF.out
end
section
open Go.RowKit
theorem RS.swap {C : RC} {w : World} {c : Int} {rt : Bool} {vl : Int} {lb lb2 : List Nat} {vL vL2 vI vO : Value} {s s' : ES} {l2 : List (ByteArray × Int)} (h : RS C w c rt vl lb vL vI vO s) (hs : s' = { s with l := l2 }) (hll : lb2.length = l2.length)
  (hrow : w.ownsRow C.w0.heap.size 71 2 vL2 l2.length (flatV l2 lb2)) (hlw : ∀ j (hj : j < lb2.length) (hl : j < l2.length), FrC w lb2[j] [.int .i64 l2[j].2]) (hnd : (C.K lb2).Nodup) (hrng : ∀ k ∈ C.K lb2, C.w0.heap.size ≤ k ∧ k < w.heap.size) (hlo : ∀ k, vL2.ownBlock = some k → k ∉ C.K lb2) (hoo : ∀ k, vO.ownBlock = some k → k ∉ C.K lb2 ∧ vL2.ownBlock ≠ some k) (hlm : l2.length ≤ 200000) (hok : ∀ x ∈ l2, inB x.2) :
  RS C (w.setCell ⟨C.P, 3, none⟩ vL2) c rt vl lb2 vL2 vI vO s' := by
 obtain ⟨p1, p2, p3, p4⟩ := h.hi
 have ht : Tcs (fun k => k = C.P) w (w.setCell ⟨C.P, 3, none⟩ vL2) := (Tcs.refl (fun k => k = C.P) w).setCell (p := ⟨C.P, 3, none⟩) rfl _
 have hnd0 := hnd
 unfold RC.K at hnd0
 have hPn : C.P ∉ C.bG :: (C.gb ++ lb2) := (List.nodup_cons.1 hnd0).1
 have hgb : ∀ k (hk : k < C.gb.length), C.gb[k] ≠ C.P := fun k hk e => hPn (e ▸ List.mem_cons_of_mem _ (List.mem_append_left _ (List.getElem_mem hk)))
 have hlb : ∀ k (hk : k < lb2.length), lb2[k] ≠ C.P := fun k hk e => hPn (e ▸ List.mem_cons_of_mem _ (List.mem_append_right _ (List.getElem_mem hk)))
 have hGP : C.bG ≠ C.P := fun e => hPn (e ▸ List.mem_cons_self ..)
 have hc : ∀ o, (w.setCell ⟨C.P, 3, none⟩ vL2).cell? ⟨C.bG, o, none⟩ = w.cell? ⟨C.bG, o, none⟩ := fun o => World.cell?_of_block (ht.block C.bG p2 hGP)
 have hbx := h.box.set 3 vL2
 subst hs
 exact ⟨ht.below h.bel h.bel.size (fun k hk => by omega), hbx, fun k h1 h2 => ⟨(hc _).trans (h.grow k h1 h2).1, (hc _).trans (h.grow k h1 h2).2⟩, h.gl, fun k h1 => (h.gw k h1).tcs (h.rng _ (RS.gK k h1)).2 ht (hgb k h1), h.g1, hll, own_notU hrow ht (fun k hk hs => hlo k hk (by have e : k = C.P := hs; rw [e]; exact RC.memP)), fun j h1 h2 => (hlw j h1 h2).tcs (hrng _ (RS.lK j h1)).2 ht (hlb j h1), h.inp, own_notU h.out ht (fun k hk hs => (h.oo k hk).1 (by have e : k = C.P := hs; rw [e]; exact RC.memP)), hnd, fun k hk => ⟨(hrng k hk).1, Nat.lt_of_lt_of_le (hrng k hk).2 ht.size⟩, hlo, hoo, ⟨h.ok.g, hok, h.ok.i⟩, h.uu, hlm, h.nn⟩
theorem RS.enter {C : RC} {w : World} {c : Int} {rt : Bool} {vl : Int} {lb : List Nat} {vL vI vO : Value} {s : ES} (h : RS C w c rt vl lb vL vI vO s) : RS C ((w.alloc (.cells #[] 71)).setCell ⟨C.P, 3, none⟩ (.slice (some ⟨w.heap.size, 0, none⟩) 0 0)) c rt vl [] (.slice (some ⟨w.heap.size, 0, none⟩) 0 0) vI vO { s with l := [] } := by
 have hb : Below w.heap.size w (w.alloc (.cells #[] 71)) := (Below.refl _ _).alloc (Nat.le_refl _) _
 have hA := h.below hb
 have hsub : ∀ k, k ∈ C.K [] → k ∈ C.K lb := fun k hk => by
  unfold RC.K at hk ⊢
  simp only [List.mem_cons, List.mem_append, List.not_mem_nil, or_false] at hk ⊢
  rcases hk with h | h | h
  ·exact .inl h
  ·exact .inr (.inl h)
  ·exact .inr (.inr (.inl h))
 refine hA.swap (l2 := []) rfl rfl ?_ (fun j hj => by simp at hj) ?_ (fun k hk => hA.rng k (hsub k hk)) (fun k hk hm => ?_) (fun k hk => ⟨fun hm => (h.oo k hk).1 (hsub k hm), fun e => ?_⟩) (by simp) (fun x hx => by simp at hx)
 ·have := World.ownsRow_lit (e := 71) (size := 2) w #[] 0 (Nat.le_refl _) (by decide) rfl
  refine ⟨rfl, .inr ?_⟩
  obtain ⟨-, ⟨e, -⟩ | ⟨g, cap, cur, e, q1, q2, q3, q4, q5, q6⟩⟩ := this
  ·cases e
  ·exact ⟨g, cap, cur, e, by have : w.heap.size ≤ g := q1; have := h.bel.size; omega, q2, q3, q4, q5, q6⟩
 ·refine List.Nodup.sublist ?_ h.nd
  unfold RC.K
  exact List.Sublist.cons_cons _ (List.Sublist.cons_cons _ (List.Sublist.append (List.Sublist.refl _) (List.nil_sublist _)))
 ·have e : w.heap.size = k := by simpa [Value.ownBlock] using hk
  have := (h.rng k (hsub k hm)).2
  omega
 ·have e : w.heap.size = k := by simpa [Value.ownBlock] using e
  have := (World.ownsRow.lt h.out k hk).2
  omega
theorem RS.leave {C : RC} {w w' : World} {c c' : Int} {rt rt' : Bool} {vl vl' : Int} {lb lb1 : List Nat} {vL vI vO vL1 vI1 vO1 : Value} {s s1 s' : ES} {S : Nat → Prop} (h : RS C w c rt vl lb vL vI vO s) (h1 : RS C w' c' rt' vl' lb1 vL1 vI1 vO1 s1) (ht : Tcs S w w') (hS : ∀ k, S k → k ∉ lb ∧ vL.ownBlock ≠ some k) (ho : ∀ k, vO1.ownBlock = some k → vO.ownBlock = some k ∨ w.heap.size ≤ k) (hs : s' = { s1 with l := s.l }) :
  RS C (w'.setCell ⟨C.P, 3, none⟩ vL) c' rt' vl' lb vL vI1 vO1 s' := by
 refine h1.swap hs h.ll (own_notU h.lrow ht (fun k hk hs => (hS k hs).2 hk)) (fun j hj hl => (h.lw j hj hl).tcs (h.rng _ (RS.lK j hj)).2 ht (fun hs => (hS _ hs).1 (List.getElem_mem hj))) h.nd (fun k hk => ⟨(h.rng k hk).1, Nat.lt_of_lt_of_le (h.rng k hk).2 ht.size⟩) h.lo (fun k hk => ?_) h.lm h.ok.l
 rcases ho k hk with h2 | h2
 ·exact h.oo k h2
 ·exact ⟨fun hm => by have := (h.rng k hm).2; omega, fun e => by have := (World.ownsRow.lt h.lrow k e).2; omega⟩
end
end Go.Proofs.YtolkpkklinoegaaDoor
