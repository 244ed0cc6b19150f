import Derived.Deep.Cut
import Derived.Deep.RegionHeldLaw
import Derived.Test.YtolkpkklinoegaaDoorM30
set_option linter.unusedSectionVars false
variable [Inhabited Go.Proofs.YtolkpkklinoegaaDoor.Pick]
namespace Go.Proofs.YtolkpkklinoegaaDoor
set_option linter.unusedVariables false
set_option linter.unusedSimpArgs false
set_option maxRecDepth 100000
set_option maxHeartbeats 16000000
section
open Go.RowKit
def inBb (x : Int) : Bool := decide (-2147483648 ≤ x ∧ x ≤ 2147483647)
theorem w32_in {x : Int} (h : inBb x = true) : wrap32 x = x := by
 simp only [inBb, decide_eq_true_eq] at h
 unfold wrap32
 omega
theorem w32_out {x : Int} (h : inBb x = false) : x ≠ wrap32 x := by
 simp only [inBb, decide_eq_false_iff_not] at h
 intro e
 apply h
 rw [e]
 unfold wrap32
 omega
set_option maxRecDepth 100000 in
set_option maxHeartbeats 4000000 in
theorem wordsG_any (v : Value) (l : List Int) (w : World) (hv : InN w v l) (hl : l.length ≤ 1048576) : Calls Tryd.prog 22 #[v] w fun e w' => e = .returned (.bool (l.all inBb)) ∧ Below w.heap.size w w' := by
 obtain ⟨a, c, rfl, h1, h2, h3⟩ := hv
 have HA := hide h3
 clear h3
 obtain ⟨n, hn⟩ : ∃ n, n = l.length := ⟨_, rfl⟩
 rw [← hn] at h1 hl ⊢
 have HN := hide hn
 clear hn
 obtain ⟨r, hr⟩ : ∃ r, r = l.all inBb := ⟨_, rfl⟩
 rw [← hr]
 have HR := hide hr
 clear hr
 go_enter Tryd.func22, Tryd.ntmps22
 go_wp2_with fail
 go_loopw [3] (fun i wr => ∃ k : Nat, k ≤ n ∧ i = .int .i64 (k : Int) ∧ (l.take k).all inBb = true ∧ Below w.heap.size w wr) (fun i _ => n - (RowKit.intOf i).toNat)
 case atStart => exact ⟨0, Nat.zero_le _, rfl, rfl, Below.refl _ _⟩
 case round =>
  obtain ⟨k, hk, rfl, ha, hB⟩ := hrel
  have HB := hide hB
  have HAl := hide ha
  clear ha hB
  by_cases hlt : k < n
  ·have hki : (k : Int) < (n : Int) := by omega
   have hkl : k < l.length := by rw [← HN.out]; exact hlt
   obtain ⟨b, off, rfl, hc⟩ := HA.out (by omega)
   have hck := hc k hkl
   have hbw : b < w.heap.size := World.block_lt_of_cell? _ _ hck
   obtain ⟨x, hx⟩ : ∃ x, x = l[k] := ⟨_, rfl⟩
   rw [← hx] at hck
   have HX := hide hx
   clear hx hc
   go_upto_region 4 with fail
   obtain ⟨W3, hW3⟩ : ∃ W3, W3 = wr.drew := ⟨_, rfl⟩
   have hb3 : Below w.heap.size w W3 := by rw [hW3]; exact HB.out.drew
   have HS := hide ((hb3.cell (p := ⟨b, off + k, none⟩) hbw).trans hck)
   have HB3 := hide hb3
   have HW3 := hide hW3
   clear hb3 hW3 hck
   refine wp_region_E 9 (fun X => X.cell? ⟨b, off + k, none⟩ = some (.int .i64 x)) (by kernel_rfl) ?_
   rw [← HW3.out]
   refine wpAnyE_take (i := 0) (v := ?_) [2, 3, 9] rfl (by kernel_rfl) (by kernel_rfl) (by kernel_rfl) (by kernel_rfl) (fun _ _ _ h => h) (Or.inl ⟨by rfl, ?_⟩) HS.out ?_
   rotate_left
   ·(intro W hSW; (try dsimp only at hSW); go_simp; try with_reducible rfl)
   try simp only [Act.put, List.setIfInBounds_toArray, List.set_cons_zero, List.set_cons_succ]
   refine wpAnyE_take (i := 1) (v := ?_) [2, 3, 9] rfl (by kernel_rfl) (by kernel_rfl) (by kernel_rfl) (by kernel_rfl) (fun _ _ _ h => h) (Or.inl ⟨by rfl, ?_⟩) HS.out ?_
   rotate_left
   ·(intro W hSW; (try dsimp only at hSW); go_simp; try with_reducible rfl)
   try simp only [Act.put, List.setIfInBounds_toArray, List.set_cons_zero, List.set_cons_succ]
   refine wpAnyE_take (i := 2) (v := ?_) [3, 9] rfl (by kernel_rfl) (by kernel_rfl) (by kernel_rfl) (by kernel_rfl) (fun _ _ _ h => h) (Or.inl ⟨by rfl, ?_⟩) HS.out ?_
   rotate_left
   ·(intro W hSW; (try dsimp only at hSW); go_simp; try with_reducible rfl)
   try simp only [Act.put, List.setIfInBounds_toArray, List.set_cons_zero, List.set_cons_succ]
   refine wpAnyE_take (i := 3) (v := ?_) [9] rfl (by kernel_rfl) (by kernel_rfl) (by kernel_rfl) (by kernel_rfl) (fun _ _ _ h => h) (Or.inl ⟨by rfl, ?_⟩) HS.out ?_
   rotate_left
   ·(intro W hSW; (try dsimp only at hSW); go_simp; try with_reducible rfl)
   try simp only [Act.put, List.setIfInBounds_toArray, List.set_cons_zero, List.set_cons_succ]
   refine wpAnyE_take (i := 4) (v := ?_) [6, 7, 8, 9] rfl (by kernel_rfl) (by kernel_rfl) (by kernel_rfl) (by kernel_rfl) (fun _ _ _ h => h) (Or.inl ⟨by rfl, ?_⟩) HS.out ?_
   rotate_left
   ·(intro W hSW; (try dsimp only at hSW); go_simp; try with_reducible rfl)
   try simp only [Act.put, List.setIfInBounds_toArray, List.set_cons_zero, List.set_cons_succ]
   refine wpAnyE_take (i := 5) (v := ?_) [6, 7, 8, 9] rfl (by kernel_rfl) (by kernel_rfl) (by kernel_rfl) (by kernel_rfl) (fun _ _ _ h => h) (Or.inl ⟨by rfl, ?_⟩) HS.out ?_
   rotate_left
   ·(intro W hSW; (try dsimp only at hSW); go_simp; try with_reducible rfl)
   try simp only [Act.put, List.setIfInBounds_toArray, List.set_cons_zero, List.set_cons_succ]
   refine wpAnyE_take (i := 6) (v := ?_) [7, 8, 9] rfl (by kernel_rfl) (by kernel_rfl) (by kernel_rfl) (by kernel_rfl) (fun _ _ _ h => h) (Or.inl ⟨by rfl, ?_⟩) HS.out ?_
   rotate_left
   ·(intro W hSW; (try dsimp only at hSW); go_simp; try with_reducible rfl)
   try simp only [Act.put, List.setIfInBounds_toArray, List.set_cons_zero, List.set_cons_succ]
   refine wpAnyE_take (i := 7) (v := ?_) [8, 9] rfl (by kernel_rfl) (by kernel_rfl) (by kernel_rfl) (by kernel_rfl) (fun _ _ _ h => h) (Or.inl ⟨by rfl, ?_⟩) HS.out ?_
   rotate_left
   ·(intro W hSW; (try dsimp only at hSW); go_simp; try with_reducible rfl)
   try simp only [Act.put, List.setIfInBounds_toArray, List.set_cons_zero, List.set_cons_succ]
   refine wpAnyE_one (i := 8) (by kernel_rfl) rfl (fun K hK => ?_)
   go_simp
   refine (wrap_any x W3).mono ?_
   rintro e w4 ⟨rfl, hw4⟩
   rw [hw4]
   clear hw4
   refine hK.out _ _ (fun _ => HS.out) ?_
   clear hK K
   try simp only [Act.put, List.setIfInBounds_toArray, List.set_cons_zero, List.set_cons_succ]
   by_cases hb : inBb x = true
   ·have e1 := w32_in hb
    rw [e1]
    clear e1
    have HTk : Hid ((l.take (k + 1)).all inBb = true) := by show _ = _; rw [List.take_succ_eq_append_getElem hkl, List.all_append, HAl.out]; simp [← HX.out, hb]
    clear hb
    refine wpAnyE_one (i := 9) (by kernel_rfl) rfl (fun K hK => ?_)
    go_simp
    refine hK.out _ _ (fun h => absurd rfl h) ?_
    clear hK K
    refine wpAnyE_done (by kernel_rfl) ?_ _
    go_wp2_with fail
    go_roundw
    case rel => exact ⟨k + 1, by omega, by go_num, HTk.out, HB3.out⟩
    case measure => simp [RowKit.intOf]; omega
   ·have hb0 : inBb x = false := by simpa using hb
    have e1 := w32_out hb0
    have HRf : Hid (r = false) := by
     show _ = _
     rw [HR.out, List.all_eq_false]
     exact ⟨l[k], List.getElem_mem hkl, by rw [← HX.out, hb0]; simp⟩
    have e2 : (x != wrap32 x) = true := by simpa using e1
    generalize wrap32 x = y at e1 e2
    clear hb hb0
    refine wpAnyE_one (i := 9) (by kernel_rfl) rfl (fun K hK => ?_)
    go_simp
    refine hK.out _ _ (fun h => absurd rfl h) ?_
    clear hK K
    refine wpAnyE_done (by kernel_rfl) ?_ _
    go_wp2_with fail
    go_ret
    exact ⟨ret_bool HRf.out.symm, HB3.out⟩
  ·have hki : ¬ (k : Int) < (n : Int) := by omega
   have HRt : Hid (r = true) := by
    show _ = _
    have := HAl.out
    rw [List.take_of_length_le (by have := HN.out; omega)] at this
    rw [HR.out, this]
   go_wp2_with fail
   go_ret
   exact ⟨ret_bool HRt.out.symm, HB.out⟩
end
section
open Go.RowKit
set_option maxRecDepth 100000 in
set_option maxHeartbeats 8000000 in
theorem stS_plain (C : RC) (hC : C.Ok) (n : Nat) (IH : ExS C n) (s : St) (a b : List St) (z : ES) (r : ER) (z' : ES) (hE : Ev C.t C.fr (n + 1) (.p s a b) z r z') (hk : s.kind ≠ 3) (hk48 : s.kind ≠ 4 ∧ s.kind ≠ 5) (hKn : KnP C.t (z.l.map Prod.fst) s) (hsc : Scp C.t (z.l.map Prod.fst)) (h1 : oneB s.e = true) (hl1 : s.e.length ≤ 1048576) (hou : (z.o.length : Int) + z.u + 1 ≤ C.F) (hlu : z.l.length + z.u + 1 ≤ 200000)
  (w : World) (vl : Int) (lb : List Nat) (vL vI vO ve vf va vb : Value) (vt vu : Int) (h : RS C w 0 false vl lb vL vI vO z) (hNe : Nodes C.w0 ve s.e) (hfs : ∃ fa fn fc, vf = .slice fa fn fc) (has : ∃ fa fn fc, va = .slice fa fn fc) (hbs : ∃ fa fn fc, vb = .slice fa fn fc) :
  Calls Tryd.prog 72 #[.pointer (some ⟨C.P, 0, none⟩), .agg #[.int .i64 s.kind, .string s.name, ve, vf, .int .i64 vt, .int .i64 vu], va, vb] w fun x w' => PaP C w lb vL vO r z' x w' := by
 obtain ⟨ea, en, ec, rfl⟩ : ∃ ea en ec, ve = .slice ea en ec := ⟨_, _, _, hNe.choose_spec.choose_spec.1⟩
 obtain ⟨fa, fn, fc, rfl⟩ := hfs
 obtain ⟨aa, an, ac, rfl⟩ := has
 obtain ⟨ba, bn, bc, rfl⟩ := hbs
 obtain ⟨sk, hsk⟩ : ∃ sk, sk = s.kind := ⟨_, rfl⟩
 rw [← hsk]
 obtain ⟨W, hW⟩ : ∃ W, W = w.alloc (.cells #[.int .i64 sk, .string s.name, .slice ea en ec, .slice fa fn fc, .int .i64 vt, .int .i64 vu] 34) := ⟨_, rfl⟩
 obtain ⟨B, hB⟩ : ∃ B, B = w.heap.size := ⟨_, rfl⟩
 have hbW : Below w.heap.size w W := by rw [hW]; exact (Below.refl _ _).alloc (Nat.le_refl _) _
 have hBW : B < W.heap.size := by rw [hW, hB, World.size_alloc]; omega
 have hfr : FrC W B [.int .i64 sk, .string s.name, .slice ea en ec, .slice fa fn fc, .int .i64 vt, .int .i64 vu] := by
  rw [hW, hB]
  exact box_fr w #[.int .i64 sk, .string s.name, .slice ea en ec, .slice fa fn fc, .int .i64 vt, .int .i64 vu] _ (by show 6 ≤ 1000; omega)
 have hRW := h.below hbW
 have hT0 : ∀ k, TEx C vO k → k < B := fun k hk => by rw [hB]; exact (TEx.lt h k hk).1
 have key : ∀ (r1 : ER) (z1 : ES), Ev C.t C.fr n (.e s.e) z r1 z1 → Calls Tryd.prog 83 #[.pointer (some ⟨C.P, 0, none⟩), .slice ea en ec] W fun x w' => ExP C W lb vL vO r1 z1 x w' := fun r1 z1 h1' => IH s.e z r1 z1 h1' hKn.e hsc h1 hl1 W vl lb vL vI vO _ hRW hNe
 have HO := hide (fun (r1 : ER) (z1 : ES) (h' : Ev C.t C.fr n (.e s.e) z r1 z1) => And.intro (h'.inv h.ok trivial) h'.ou)
 have HC := hide hC
 have HKn := hide hKn
 have HSc := hide hsc
 have HB := hide hB
 have HbW := hide hbW
 have HT0 := hide hT0
 have HBW := hide hBW
 have HFr := hide hfr
 have HSk := hide hsk
 have g2 := (hfr 2 _ rfl).1
 have HFin : Hid (∀ (w' : World) (r : ER) (z' : ES) (vI' vO' : Value) (vl' : Int), RS C w' (stR r) (rtR r) vl' lb vL vI' vO' z' → (∀ v, r = .ret v → vl' = v) → Tcs (TSx C lb vL vO) W w' → (∀ k, vO'.ownBlock = some k → vO.ownBlock = some k ∨ W.heap.size ≤ k) → PaP C w lb vL vO r z' (.returned (.tuple #[])) w') := fun w' r z' vI' vO' vl' hR hv ht ho => ⟨⟨_, rfl⟩, lb, vL, vI', vO', vl', hR, hv, ⟨[], by simp, fun b hb => by simp at hb⟩, (hbW.tcs (S := TSx C lb vL vO)).next ht (fun k hk => .inl hk), fun k hk => (ho k hk).imp_right (fun h1 => Nat.le_trans hbW.size h1), fun k hk => .inl hk⟩
 have HFinL : Hid (∀ (w' : World) (z' : ES) (b' : Nat) (vL' vI' vO' : Value) (vl' : Int), RS C w' 0 false vl' (lb ++ [b']) vL' vI' vO' z' → w.heap.size ≤ b' → Tcs (TSx C lb vL vO) W w' → (∀ k, vO'.ownBlock = some k → vO.ownBlock = some k ∨ W.heap.size ≤ k) → (∀ k, vL'.ownBlock = some k → vL.ownBlock = some k ∨ W.heap.size ≤ k) → PaP C w lb vL vO .on z' (.returned (.tuple #[])) w') := fun w' z' b' vL' vI' vO' vl' hR hb' ht ho hl => ⟨⟨_, rfl⟩, lb ++ [b'], vL', vI', vO', vl', hR, (fun v hv => by cases hv), ⟨[b'], rfl, fun b hb => by simp at hb; omega⟩, (hbW.tcs (S := TSx C lb vL vO)).next ht (fun k hk => .inl hk), fun k hk => (ho k hk).imp_right (fun h1 => Nat.le_trans hbW.size h1), fun k hk => (hl k hk).imp_right (fun h1 => Nat.le_trans hbW.size h1)⟩
 have HFb := hide hC.fu
 have HRS := hide h
 have HOu := hide (And.intro hou hlu)
 rcases ev_stmt hE hk with ⟨c, rfl, e1⟩ | ⟨v, z1, e1, hrest⟩
 ·have hc0 : (c == 0) = false := by rcases e1.outc c rfl with rfl | rfl <;> rfl
  have hc1 : (c != 0) = true := by rcases e1.outc c rfl with rfl | rfl <;> rfl
  have HCl := hide (key _ _ e1)
  clear key HO HC HKn HSc hE hC hKn hsc IH h1 hl1 hNe hRW hT0 hfr h hbW e1 hk hk48 hsk HFinL hou hlu
  go_enter Tryd.func72, Tryd.ntmps72
  go_wp2_with fail
  rw [← hW, ← hB]
  clear hW hB
  refine HCl.out.mono ?_
  rintro x w1 ⟨z0, vI1, vO1, vl1, rfl, -, hR1, t1, ho1⟩
  have y8 := (hR1.box 8 _ rfl).1
  simp only [stR] at y8
  have HF := hide (HFin.out w1 (.out c) z' vI1 vO1 vl1 hR1 (fun v hv => by cases hv) ((Tcs.refl (TSx C lb vL vO) W).next t1 (TEx.up (fun k hk => .inl hk))) ho1)
  clear hR1 t1 ho1
  go_wp2_with fail
  exact bodyPost_ret (v := .tuple #[]) (by simp [results, Tryd.results72, go_sem]) rfl HF.out
 ·have HCl := hide (key _ _ e1)
  obtain ⟨⟨o1, v1, s1⟩, ou1⟩ := HO.out _ _ e1
  have hz1 : z1.l = z.l := s1.2.2.2
  have HZ1 := hide hz1
  have HV := hide (v1 v (.inl rfl))
  have hou1 : (z1.o.length : Int) + z1.u + 1 ≤ C.F := by have := ou1.2.1; simp only [Tk.d] at this; omega
  have hlu1 : z1.l.length + 1 ≤ 200000 := by have := ou1.2.2; simp only [Tk.d] at this; omega
  have HOu1 := hide (And.intro hou1 hlu1)
  have hrest' : ((sk = 1 ∧ r = .on ∧ z' = { z1 with l := z1.l ++ [(s.name, v)] }) ∨ (sk = 2 ∧ r = .on ∧ z' = z1.wr C.t s.name v) ∨ (sk = 6 ∧ r = .ret v ∧ z' = z1) ∨ (sk = 7 ∧ r = .on ∧ z' = { z1 with o := z1.o ++ [v] }) ∨ (sk = 8 ∧ r = .on ∧ z' = z1)) := by
   rw [hsk]
   rcases hrest with h | h | h | h | h | ⟨h, -⟩ | ⟨h, -⟩
   ·exact .inl h
   ·exact .inr (.inl h)
   ·exact .inr (.inr (.inl h))
   ·exact .inr (.inr (.inr (.inl h)))
   ·exact .inr (.inr (.inr (.inr h)))
   ·exact absurd h hk48.1
   ·exact absurd h hk48.2
  clear key HO hE hC hKn hsc IH h1 hl1 hNe hRW hT0 hfr h hbW e1 hk hk48 hsk hou hlu hou1 hlu1 ou1 o1 v1 s1 hz1 hrest
  go_enter Tryd.func72, Tryd.ntmps72
  go_wp2_with fail
  rw [← hW, ← hB]
  clear hW hB
  refine HCl.out.mono ?_
  rintro x w1 ⟨z0, vI1, vO1, vl1, rfl, hz, hR1, t1, ho1⟩
  obtain rfl : v = z0 := (hz v rfl).symm
  clear hz
  have y8 := (hR1.box 8 _ rfl).1
  simp only [stR] at y8 hR1
  have hfr1 := HFr.out.tcs HBW.out t1 (fun hx => by have := HT0.out _ hx; omega)
  have HT1 := hide ((Tcs.refl (TSx C lb vL vO) W).next t1 (TEx.up (fun k hk => .inl hk)))
  have hBs : B < w1.heap.size := Nat.lt_of_lt_of_le HBW.out t1.size
  have HW1 := hide t1.size
  have g0 := (hfr1 0 _ rfl).1
  have g1 := (hfr1 1 _ rfl).1
  have HFr1 := hide hfr1
  have HOw := hide ho1
  have HR1 := hide hR1
  have hup : ∀ k, TEx C vO1 k → TSx C lb vL vO k ∨ W.heap.size ≤ k := TEx.up ho1
  have HUp := hide hup
  clear hR1 t1 ho1 hfr1 hup
  rcases hrest' with ⟨rfl, rfl, rfl⟩ | ⟨rfl, rfl, rfl⟩ | ⟨rfl, rfl, rfl⟩ | ⟨rfl, rfl, rfl⟩ | ⟨rfl, rfl, rfl⟩
  ·go_upto_region 5 with fail
   obtain ⟨W2, hW2⟩ : ∃ W2, W2 = w1.drew := ⟨_, rfl⟩
   have hb2 : Below w1.heap.size w1 W2 := by rw [hW2]; exact (Below.refl _ _).drew
   have hR2 := HR1.out.below hb2
   have hfr2 := HFr1.out.below hb2
   obtain ⟨W3, hW3⟩ : ∃ W3, W3 = W2.alloc (.cells #[.int .i64 v] 2) := ⟨_, rfl⟩
   obtain ⟨W4, hW4⟩ : ∃ W4, W4 = W3.alloc (.cells #[.string s.name, .slice (some ⟨W2.heap.size, 0, none⟩) 1 1] 71) := ⟨_, rfl⟩
   obtain ⟨va, vn, vc, w5, r5, hR5, ⟨x5, f5⟩, t5, t5', o5⟩ := decl_run s.name v hR2 (hW4.trans (by rw [hW3])) HOu1.out.2 HV.out
   have hb3 : Below W2.heap.size W2 W3 := by rw [hW3]; exact (Below.refl _ _).alloc (Nat.le_refl _) _
   have hb4 : Below W2.heap.size W2 W4 := by rw [hW4]; exact hb3.alloc hb3.size _
   have hz3 : W3.heap.size = W2.heap.size + 1 := by rw [hW3, World.size_alloc]
   have hBs2 : B < W2.heap.size := Nat.lt_of_lt_of_le hBs hb2.size
   have hBP : B ≠ C.P := fun e => by have := HT0.out C.P (.inl rfl); omega
   have hBL : vL.ownBlock ≠ some B := fun e => by have h1 := (World.ownsRow.lt HRS.out.lrow _ e).2; have := HB.out; omega
   have hS2 : W2.cell? ⟨C.P, 3, none⟩ = some vL ∧ W2.cell? ⟨B, 1, none⟩ = some (.string s.name) := ⟨(hR2.box 3 _ rfl).1, (hfr2 1 _ rfl).1⟩
   have HS3 : Hid (W3.cell? ⟨C.P, 3, none⟩ = some vL ∧ W3.cell? ⟨B, 1, none⟩ = some (.string s.name)) := ⟨((hR2.below hb3).box 3 _ rfl).1, ((hfr2.below hb3) 1 _ rfl).1⟩
   have HS4 : Hid (W4.cell? ⟨C.P, 3, none⟩ = some vL ∧ W4.cell? ⟨B, 1, none⟩ = some (.string s.name)) := ⟨((hR2.below hb4).box 3 _ rfl).1, ((hfr2.below hb4) 1 _ rfl).1⟩
   have HS5 : Hid (w5.cell? ⟨C.P, 3, none⟩ = some vL ∧ w5.cell? ⟨B, 1, none⟩ = some (.string s.name)) := ⟨x5, ((hfr2.below hb4).tcs (Nat.lt_of_lt_of_le hBs2 hb4.size) t5 (fun e => e.elim hBP hBL) 1 _ rfl).1⟩
   have HF := hide (HFinL.out _ _ _ _ _ _ _ hR5 (by have := HbW.out.size; have := HW1.out; have := hb2.size; omega) ((HT1.out.of_below hb2).next t5' (fun k hk => by
    rcases hk with hk | hk | hk
    ·exact HUp.out k hk
    ·exact .inl (.inr (.inl hk))
    ·exact .inl (.inr (.inr hk)))) HOw.out (fun k hk => (o5 k hk).imp_right (fun h1 => by have := HW1.out; have := hb2.size; omega)))
   have Hr5 := hide r5
   have HW2 := hide hW2
   have HZ3 := hide hz3
   have HW3 := hide hW3
   have HW4 := hide hW4
   obtain ⟨La, Lc, eL, -⟩ := own_shapeU hR2.lrow
   subst eL
   generalize hll : z1.l.length = ll at *
   have HLl := hide hll
   clear hll
   clear hR5 r5 t5 t5' o5 hb2 hb3 hb4 hR2 hfr2 hW4 hz3 hBL HFin HFinL HOw HUp HT1
   clear hW2
   have HS := hide hS2
   clear hS2
   refine wp_region_E 14 (fun X => X.cell? ⟨C.P, 3, none⟩ = some (.slice La ll Lc) ∧ X.cell? ⟨B, 1, none⟩ = some (.string s.name)) (by kernel_rfl) ?_
   rw [← HW2.out]
   refine wpAnyE_take (i := 0) (v := ?_) [12, 13, 14] rfl (by kernel_rfl) (by kernel_rfl) (by kernel_rfl) (by kernel_rfl) (fun _ _ _ h => h) (Or.inl ⟨by rfl, ?_⟩) HS.out ?_
   rotate_left
   ·(intro W hSW; (try dsimp only at hSW); go_simp; try with_reducible rfl)
   try simp only [Act.put, List.setIfInBounds_toArray, List.set_cons_zero, List.set_cons_succ]
   refine wpAnyE_take (i := 1) (v := ?_) [2, 3, 4, 11, 14] rfl (by kernel_rfl) (by kernel_rfl) (by kernel_rfl) (by kernel_rfl) (fun _ _ _ h => h) (Or.inl ⟨by rfl, ?_⟩) HS.out ?_
   rotate_left
   ·(intro W hSW; (try dsimp only at hSW); go_simp; try with_reducible rfl)
   try simp only [Act.put, List.setIfInBounds_toArray, List.set_cons_zero, List.set_cons_succ]
   refine wpAnyE_take (i := 2) (v := ?_) [3, 4, 11, 14] rfl (by kernel_rfl) (by kernel_rfl) (by kernel_rfl) (by kernel_rfl) (fun _ _ _ h => h) (Or.inl ⟨by rfl, ?_⟩) HS.out ?_
   rotate_left
   ·(intro W hSW; (try dsimp only at hSW); go_simp; try with_reducible rfl)
   try simp only [Act.put, List.setIfInBounds_toArray, List.set_cons_zero, List.set_cons_succ]
   refine wpAnyE_take (i := 3) (v := ?_) [4, 11, 14] rfl (by kernel_rfl) (by kernel_rfl) (by kernel_rfl) (by kernel_rfl) (fun _ _ _ h => h) (Or.inl ⟨by rfl, ?_⟩) HS.out ?_
   rotate_left
   ·(intro W hSW; (try dsimp only at hSW); go_simp; try with_reducible rfl)
   try simp only [Act.put, List.setIfInBounds_toArray, List.set_cons_zero, List.set_cons_succ]
   refine wpAnyE_take (i := 4) (v := ?_) [11, 14] rfl (by kernel_rfl) (by kernel_rfl) (by kernel_rfl) (by kernel_rfl) (fun _ _ _ h => h) (Or.inl ⟨by rfl, ?_⟩) HS.out ?_
   rotate_left
   ·(intro W hSW; (try dsimp only at hSW); go_simp; try with_reducible rfl)
   try simp only [Act.put, List.setIfInBounds_toArray, List.set_cons_zero, List.set_cons_succ]
   refine wpAnyE_take (i := 5) (v := ?_) [6, 9, 10, 11, 14] rfl (by kernel_rfl) (by kernel_rfl) (by kernel_rfl) (by kernel_rfl) (fun _ _ _ h => h) (Or.inl ⟨by rfl, ?_⟩) HS.out ?_
   rotate_left
   ·(intro W hSW; (try dsimp only at hSW); go_simp; try with_reducible rfl)
   try simp only [Act.put, List.setIfInBounds_toArray, List.set_cons_zero, List.set_cons_succ]
   refine wpAnyE_take (i := 6) (v := ?_) [9, 10, 11, 14] rfl (by kernel_rfl) (by kernel_rfl) (by kernel_rfl) (by kernel_rfl) (fun _ _ _ h => h) (Or.inl ⟨by rfl, ?_⟩) HS.out ?_
   rotate_left
   ·(intro W hSW; (try dsimp only at hSW); go_simp; try with_reducible rfl)
   try simp only [Act.put, List.setIfInBounds_toArray, List.set_cons_zero, List.set_cons_succ]
   refine wpAnyE_take (i := 7) (v := ?_) [8, 9, 10, 11, 14] rfl (by kernel_rfl) (by kernel_rfl) (by kernel_rfl) (by kernel_rfl) (fun _ _ _ h => h) (Or.inl ⟨by rfl, ?_⟩) HS.out ?_
   rotate_left
   ·(intro W hSW; (try dsimp only at hSW); go_simp; try with_reducible rfl)
   try simp only [Act.put, List.setIfInBounds_toArray, List.set_cons_zero, List.set_cons_succ]
   clear HS
   refine wpAnyE_one (i := 8) (by kernel_rfl) rfl (fun K hK => ?_)
   go_simp
   rw [← hW3]
   clear hW3
   refine hK.out _ _ (fun _ => HS3.out) ?_
   clear hK K
   try simp only [Act.put, List.setIfInBounds_toArray, List.set_cons_zero, List.set_cons_succ]
   have HS := HS3
   refine wpAnyE_take (i := 9) (v := ?_) [10, 11, 14] rfl (by kernel_rfl) (by kernel_rfl) (by kernel_rfl) (by kernel_rfl) (fun _ _ _ h => h) (Or.inl ⟨by rfl, ?_⟩) HS.out ?_
   rotate_left
   ·(intro W hSW; (try dsimp only at hSW); go_simp; try with_reducible rfl)
   try simp only [Act.put, List.setIfInBounds_toArray, List.set_cons_zero, List.set_cons_succ]
   clear HS
   refine wpAnyE_one (i := 10) (by kernel_rfl) rfl (fun K hK => ?_)
   go_simp
   rw [← HW4.out, HZ3.out]
   refine hK.out _ _ (fun _ => HS4.out) ?_
   clear hK K
   try simp only [Act.put, List.setIfInBounds_toArray, List.set_cons_zero, List.set_cons_succ]
   refine wpAnyE_one (i := 11) (by kernel_rfl) rfl (fun K hK => ?_)
   refine step_appR rfl (.tmp 26) (.tmp 32) 67 rfl (.slice La ll Lc) (.slice (some ⟨W2.heap.size + 1, 0, none⟩) 1 1) (.slice va vn vc) w5 rfl rfl Hr5.out ?_
   refine hK.out _ _ (fun _ => HS5.out) ?_
   clear hK K
   try simp only [Act.put, List.setIfInBounds_toArray, List.set_cons_zero, List.set_cons_succ]
   have HS := HS5
   refine wpAnyE_take (i := 12) (v := ?_) [13, 14] rfl (by kernel_rfl) (by kernel_rfl) (by kernel_rfl) (by kernel_rfl) (fun _ _ _ h => h) (Or.inl ⟨by rfl, ?_⟩) HS.out ?_
   rotate_left
   ·(intro W hSW; (try dsimp only at hSW); go_simp; try with_reducible rfl)
   try simp only [Act.put, List.setIfInBounds_toArray, List.set_cons_zero, List.set_cons_succ]
   refine wpAnyE_take (i := 13) (v := ?_) [14] rfl (by kernel_rfl) (by kernel_rfl) (by kernel_rfl) (by kernel_rfl) (fun _ _ _ h => h) (Or.inl ⟨by rfl, ?_⟩) HS.out ?_
   rotate_left
   ·(intro W hSW; (try dsimp only at hSW); go_simp; try with_reducible rfl)
   try simp only [Act.put, List.setIfInBounds_toArray, List.set_cons_zero, List.set_cons_succ]
   clear HS
   refine wpAnyE_one (i := 14) (by kernel_rfl) rfl (fun K hK => ?_)
   go_simp
   refine hK.out _ _ (fun h => absurd rfl h) ?_
   clear hK K
   refine wpAnyE_done (by kernel_rfl) ?_ _
   go_wp2_with fail
   rw [HLl.out]
   exact bodyPost_end (v := .tuple #[]) (by simp [results, Tryd.results72, go_sem]) rfl HF.out
  ·go_wp2_with fail
   have hks := HKn.out.set HSk.out.symm
   have hnd : (z1.l.map Prod.fst).Nodup := by rw [HZ1.out]; exact HSc.out.1
   refine (find_any s.name HR1.out HC.out hnd).mono ?_
   rintro x w3 ⟨vv, rfl, hF, hb3⟩
   have hks' : s.name ∈ z1.l.map Prod.fst ∨ (s.name ∉ z1.l.map Prod.fst ∧ 0 ≤ globI C.t.globals s.name) := by
    rw [HZ1.out]
    exact hks.imp_right (fun h => ⟨h.1, by omega⟩)
   obtain ⟨bw, nw, hvv, hn0, hn1, hbl, hcb, hfb, hbm⟩ := find_word HR1.out HC.out hF hnd hks'
   have hR3 := HR1.out.below hb3
   have hSt := hR3.wr HC.out hF hks' hvv HV.out
   subst hvv
   have hck := (hb3.cell (p := ⟨bw, 0, none⟩) hbl).trans hcb
   have hfk := (hb3.frozen (p := ⟨bw, 0, none⟩) hbl).trans hfb
   have HF := hide (HFin.out _ .on _ vI1 vO1 vl1 hSt (fun v hv => by cases hv) ((HT1.out.of_below hb3).setCell (p := ⟨bw, 0, none⟩) (by rcases hbm with h | h; exact .inl (.inr (.inl h)); exact .inr (.inl h)) _) HOw.out)
   generalize z1.rd C.t s.name = q at hck
   have hnw : (0 : Int) < (nw : Int) := by omega
   clear hSt hR3 hF hks' hb3 hcb hfb hks hnd
   go_wp2_with fail
   exact bodyPost_end (v := .tuple #[]) (by simp [results, Tryd.results72, go_sem]) rfl HF.out
  ·have y9 := (HR1.out.box 9 _ rfl).1
   have f9 := (HR1.out.box 9 _ rfl).2
   have y10 := (HR1.out.box 10 _ rfl).1
   have f10 := (HR1.out.box 10 _ rfl).2
   have HF := hide (HFin.out _ (.ret v) z' vI1 vO1 v (HR1.out.retd v) (fun v hv => by cases hv; rfl) ((HT1.out.setCell (p := ⟨C.P, 9, none⟩) (.inl (.inl rfl)) _).setCell (p := ⟨C.P, 10, none⟩) (.inl (.inl rfl)) _) HOw.out)
   go_wp2_with fail
   exact bodyPost_end (v := .tuple #[]) (by simp [results, Tryd.results72, go_sem]) rfl HF.out
  ·obtain ⟨va, vn, vc, w3, r3, hR3, ⟨x5, f5⟩, t3, o3⟩ := tell_run v HR1.out HOu1.out.1 HFb.out.2
   have HF := hide (HFin.out _ .on _ vI1 _ vl1 hR3 (fun v hv => by cases hv) (HT1.out.next t3 HUp.out) (fun k hk => by
    rcases o3 k hk with h1 | h1
    ·exact HOw.out k h1
    ·exact .inr (Nat.le_trans HW1.out h1)))
   have y5 := (HR1.out.box 5 _ rfl).1
   obtain ⟨Oa, Oc, eO, -⟩ := own_shapeU HR1.out.out
   subst eO
   generalize z1.o.length = ol at *
   have Hr3 := hide r3
   clear r3 hR3 t3 o3 HUp HOw HT1 HFin
   go_wp2_with (at_builtin; refine wpList_appG rfl (.tmp 59) (.tmp 61) _ rfl _ _ _ _ rfl rfl Hr3.out ?_)
   exact bodyPost_end (v := .tuple #[]) (by simp [results, Tryd.results72, go_sem]) rfl HF.out
  ·have HF := hide (HFin.out _ .on z' vI1 vO1 vl1 HR1.out (fun v hv => by cases hv) HT1.out HOw.out)
   go_wp2_with fail
   exact bodyPost_end (v := .tuple #[]) (by simp [results, Tryd.results72, go_sem]) rfl HF.out
end
section
open Go.RowKit
def frB (x : Int) : Bool := decide (0 ≤ x ∧ x ≤ 1000000)
theorem fld_errE (x y z : Int) (W : World) : (Instr.field 62 (.agg #[.int .i64 x, .int .i64 y, .int .i64 z]) 0).run Tryd.prog W = .ok (.int .i64 x) W := by kernel_rfl
def zeroE : Value := .agg #[.int .i64 0, .slice none 0 0, .int .i64 0, .int .i64 0, .int .i64 0]
set_option maxRecDepth 100000 in
set_option maxHeartbeats 4000000 in
theorem evalG_no (t : Tr) (vg vf vI vFr : Value) (i fr : List Int) (F : Int) (w : World) (hck : ∀ X, Below w.heap.size w X → Calls Tryd.prog 21 #[.agg #[vg, vf]] X fun e w' => (∃ x y, e = .returned (.agg #[.int .i64 (checkE t).1, .int .i64 x, .int .i64 y])) ∧ Below X.heap.size X w') (hg : Globs w vg t.globals) (hf : Funcs w vf t.funcs) (hI : InN w vI i) (hFr : InN w vFr fr) (hil : i.length ≤ 1048576) (hfl : fr.length ≤ 1048576) (hfs : t.funcs.length ≤ 1048576)
  (hno : (checkE t).1 ≠ 0 ∨ 1000 < i.length ∨ i.all inBb = false ∨ ¬ (0 ≤ F ∧ F ≤ 100000) ∨ fr.length ≠ t.funcs.length) :
  Calls Tryd.prog 9 #[.agg #[vg, vf], vI, .int .i64 F, vFr] w fun e w' => e = .returned zeroE ∧ Below w.heap.size w w' := by
 have HCk := hide hck
 have HI := hide hI
 have HNo := hide hno
 obtain ⟨ag, cg, rfl, -⟩ := hg
 obtain ⟨af, cf, rfl, -⟩ := hf
 obtain ⟨ai, ci, rfl, hi1, hi2, -⟩ := hI
 obtain ⟨ar, cr, rfl, hr1, hr2, -⟩ := hFr
 obtain ⟨W1, hW1⟩ : ∃ W1, W1 = (w.alloc (.cells #[.slice ag t.globals.length cg, .slice af t.funcs.length cf] 41)).alloc (.cells #[.int .i64 0, .slice none 0 0, .int .i64 0, .int .i64 0, .int .i64 0] 44) := ⟨_, rfl⟩
 have hb1 : Below w.heap.size w W1 := by rw [hW1]; exact ((Below.refl _ _).alloc (Nat.le_refl _) _).alloc (by simp) _
 have HB1 := hide hb1
 clear hck hno hb1
 go_enter Tryd.func9, Tryd.ntmps9
 go_wp2_with fail
 rw [← hW1]
 have hz1 : W1.heap.size = w.heap.size + 2 := by rw [hW1, World.size_alloc, World.size_alloc]
 have hfr : FrC W1 (w.heap.size + 1) [.int .i64 0, .slice none 0 0, .int .i64 0, .int .i64 0, .int .i64 0] := by
  rw [hW1]
  have := box_fr (w.alloc (.cells #[.slice ag t.globals.length cg, .slice af t.funcs.length cf] 41)) #[.int .i64 0, .slice none 0 0, .int .i64 0, .int .i64 0, .int .i64 0] 44 (by decide)
  rw [World.size_alloc] at this
  exact this
 have hft : FrC W1 w.heap.size [.slice ag t.globals.length cg, .slice af t.funcs.length cf] := by
  rw [hW1]
  exact (box_fr w #[.slice ag t.globals.length cg, .slice af t.funcs.length cf] 41 (by show 2 ≤ 1000; omega)).below ((Below.refl _ _).alloc (Nat.le_refl _) _)
 have HFr := hide hfr
 have HFt := hide hft
 clear hW1 hfr hft
 obtain ⟨M, hM⟩ : ∃ M, M = w.heap.size := ⟨_, rfl⟩
 rw [← hM] at HFr HFt hz1 ⊢
 have HM := hide hM
 clear hM
 refine (HCk.out W1 HB1.out).mono ?_
 rintro e w2 ⟨⟨x, y, rfl⟩, hb2⟩
 have hfr2 := HFr.out.below hb2
 have hft2 := HFt.out.below hb2
 have y0 := (hfr2 0 _ rfl).1
 have z0 := (hfr2 0 _ rfl).2
 have y1 := (hfr2 1 _ rfl).1
 have z1 := (hfr2 1 _ rfl).2
 have y2 := (hfr2 2 _ rfl).1
 have z2 := (hfr2 2 _ rfl).2
 have y3 := (hfr2 3 _ rfl).1
 have z3 := (hfr2 3 _ rfl).2
 have y4 := (hfr2 4 _ rfl).1
 have z4 := (hfr2 4 _ rfl).2
 have HF5 := hide (((((hfr2.set 0 (.int .i64 0)).set 1 (.slice none 0 0)).set 2 (.int .i64 0)).set 3 (.int .i64 0)).set 4 (.int .i64 0))
 have hbw2 : Below w.heap.size w w2 := HB1.out.trans (hb2.mono HB1.out.size)
 have HB2 := hide hbw2
 have hN := HNo.out
 have hfe := fld_errE
 generalize hck : (checkE t).1 = ck at *
 have HFt2 := hide hft2
 have Hfr2 := hide hfr2
 clear hfr2 hft2 hb2 hbw2
 by_cases h0 : ck = 0
 ·subst h0
  have hft := HFt2.out
  have x1 := (hft 1 _ rfl).1
  by_cases h1 : 1000 < i.length
  ·have h1' : (1000 : Int) < (i.length : Int) := by omega
   clear hN HNo
   go_wp2_with fail
   have t0 := (HF5.out 0 _ rfl).1
   have t1 := (HF5.out 1 _ rfl).1
   have t2 := (HF5.out 2 _ rfl).1
   have t3 := (HF5.out 3 _ rfl).1
   have t4 := (HF5.out 4 _ rfl).1
   refine bodyPost_ret (v := .agg #[.int .i64 0, .slice none 0 0, .int .i64 0, .int .i64 0, .int .i64 0]) (by simp [results, Tryd.results9, go_sem, t0, t1, t2, t3, t4]) rfl ⟨rfl, ?_⟩
   have := HM.out
   exact ((((HB2.out.setCell (p := ⟨M + 1, 0, none⟩) (by simp; omega) _).setCell (p := ⟨M + 1, 1, none⟩) (by simp; omega) _).setCell (p := ⟨M + 1, 2, none⟩) (by simp; omega) _).setCell (p := ⟨M + 1, 3, none⟩) (by simp; omega) _).setCell (p := ⟨M + 1, 4, none⟩) (by simp; omega) _
  ·have h1' : ¬ (1000 : Int) < (i.length : Int) := by omega
   go_wp2_with fail
   have hw2 : Below w.heap.size w w2 := HB2.out
   refine (wordsG_any _ i w2 ⟨ai, ci, rfl, hi1, hi2, ?_⟩ hil).mono ?_
   ·intro hpos
    obtain ⟨a', c', e', -, -, h3⟩ := HI.out
    simp only [Value.slice.injEq] at e'
    obtain ⟨rfl, -, rfl⟩ := e'
    obtain ⟨b, off, rfl, hc⟩ := h3 hpos
    exact ⟨b, off, rfl, fun j hj => (hw2.cell (p := ⟨b, _, none⟩) (World.block_lt_of_cell? _ _ (hc j hj))).trans (hc j hj)⟩
   rintro e w3 ⟨rfl, hb3⟩
   have hf3 := Hfr2.out.below hb3
   have hg3 := HFt2.out.below hb3
   have HB3 := hide (HB2.out.trans (hb3.mono HB2.out.size))
   clear x1 y0 y1 y2 y3 y4 z0 z1 z2 z3 z4 hw2
   have x1 := (hg3 1 _ rfl).1
   have y0 := (hf3 0 _ rfl).1
   have z0 := (hf3 0 _ rfl).2
   have y1 := (hf3 1 _ rfl).1
   have z1 := (hf3 1 _ rfl).2
   have y2 := (hf3 2 _ rfl).1
   have z2 := (hf3 2 _ rfl).2
   have y3 := (hf3 3 _ rfl).1
   have z3 := (hf3 3 _ rfl).2
   have y4 := (hf3 4 _ rfl).1
   have z4 := (hf3 4 _ rfl).2
   have HF6 := hide (((((hf3.set 0 (.int .i64 0)).set 1 (.slice none 0 0)).set 2 (.int .i64 0)).set 3 (.int .i64 0)).set 4 (.int .i64 0))
   clear hf3 hg3 hb3 hft
   cases hwd : i.all inBb with
   | false =>
    clear hN HNo
    go_wp2_with fail
    have t0 := (HF6.out 0 _ rfl).1
    have t1 := (HF6.out 1 _ rfl).1
    have t2 := (HF6.out 2 _ rfl).1
    have t3 := (HF6.out 3 _ rfl).1
    have t4 := (HF6.out 4 _ rfl).1
    refine bodyPost_ret (v := .agg #[.int .i64 0, .slice none 0 0, .int .i64 0, .int .i64 0, .int .i64 0]) (by simp [results, Tryd.results9, go_sem, t0, t1, t2, t3, t4]) rfl ⟨rfl, ?_⟩
    have := HM.out
    exact ((((HB3.out.setCell (p := ⟨M + 1, 0, none⟩) (by simp; omega) _).setCell (p := ⟨M + 1, 1, none⟩) (by simp; omega) _).setCell (p := ⟨M + 1, 2, none⟩) (by simp; omega) _).setCell (p := ⟨M + 1, 3, none⟩) (by simp; omega) _).setCell (p := ⟨M + 1, 4, none⟩) (by simp; omega) _
   | true =>
    go_wp2_with fail
    refine (in_any _ _ _ _).mono ?_
    rintro e w4 ⟨rfl, hw4⟩
    rw [hw4]
    clear hw4
    by_cases hF : 0 ≤ F ∧ F ≤ 100000
    ·have hdec : decide ((0 : Int) ≤ F ∧ F ≤ 100000) = true := decide_eq_true hF
     rw [hdec]
     have hne : fr.length ≠ t.funcs.length := by
      rcases hN with h | h | h | h | h
      ·exact absurd rfl h
      ·exact absurd h h1
      ·rw [hwd] at h; cases h
      ·exact absurd hF h
      ·exact h
     have hne' : ((fr.length : Int) != (t.funcs.length : Int)) = true := by simp; omega
     clear hN HNo hdec hwd
     generalize fr.length = fl at *
     generalize t.funcs.length = tl at *
     go_wp2_with fail
     have t0 := (HF6.out 0 _ rfl).1
     have t1 := (HF6.out 1 _ rfl).1
     have t2 := (HF6.out 2 _ rfl).1
     have t3 := (HF6.out 3 _ rfl).1
     have t4 := (HF6.out 4 _ rfl).1
     refine bodyPost_ret (v := .agg #[.int .i64 0, .slice none 0 0, .int .i64 0, .int .i64 0, .int .i64 0]) (by simp [results, Tryd.results9, go_sem, t0, t1, t2, t3, t4]) rfl ⟨rfl, ?_⟩
     have := HM.out
     exact ((((HB3.out.setCell (p := ⟨M + 1, 0, none⟩) (by simp; omega) _).setCell (p := ⟨M + 1, 1, none⟩) (by simp; omega) _).setCell (p := ⟨M + 1, 2, none⟩) (by simp; omega) _).setCell (p := ⟨M + 1, 3, none⟩) (by simp; omega) _).setCell (p := ⟨M + 1, 4, none⟩) (by simp; omega) _
    ·have hdec : decide ((0 : Int) ≤ F ∧ F ≤ 100000) = false := decide_eq_false hF
     rw [hdec]
     clear hN HNo
     go_wp2_with fail
     have t0 := (HF6.out 0 _ rfl).1
     have t1 := (HF6.out 1 _ rfl).1
     have t2 := (HF6.out 2 _ rfl).1
     have t3 := (HF6.out 3 _ rfl).1
     have t4 := (HF6.out 4 _ rfl).1
     refine bodyPost_ret (v := .agg #[.int .i64 0, .slice none 0 0, .int .i64 0, .int .i64 0, .int .i64 0]) (by simp [results, Tryd.results9, go_sem, t0, t1, t2, t3, t4]) rfl ⟨rfl, ?_⟩
     have := HM.out
     exact ((((HB3.out.setCell (p := ⟨M + 1, 0, none⟩) (by simp; omega) _).setCell (p := ⟨M + 1, 1, none⟩) (by simp; omega) _).setCell (p := ⟨M + 1, 2, none⟩) (by simp; omega) _).setCell (p := ⟨M + 1, 3, none⟩) (by simp; omega) _).setCell (p := ⟨M + 1, 4, none⟩) (by simp; omega) _
 ·have h0' : (ck != 0) = true := by simpa using h0
  clear hN HNo
  go_wp2_with fail
  have t0 := (HF5.out 0 _ rfl).1
  have t1 := (HF5.out 1 _ rfl).1
  have t2 := (HF5.out 2 _ rfl).1
  have t3 := (HF5.out 3 _ rfl).1
  have t4 := (HF5.out 4 _ rfl).1
  refine bodyPost_ret (v := .agg #[.int .i64 0, .slice none 0 0, .int .i64 0, .int .i64 0, .int .i64 0]) (by simp [results, Tryd.results9, go_sem, t0, t1, t2, t3, t4]) rfl ⟨rfl, ?_⟩
  have := HM.out
  exact ((((HB2.out.setCell (p := ⟨M + 1, 0, none⟩) (by simp; omega) _).setCell (p := ⟨M + 1, 1, none⟩) (by simp; omega) _).setCell (p := ⟨M + 1, 2, none⟩) (by simp; omega) _).setCell (p := ⟨M + 1, 3, none⟩) (by simp; omega) _).setCell (p := ⟨M + 1, 4, none⟩) (by simp; omega) _
end
section
open Go.RowKit
structure OkB (t : Tr) (sc : List ByteArray) (ss : List St) : Prop where
 snd : Snd t ss sc
 ok : ∀ s ∈ ss, stmtB s = true ∧ s.e.length ≤ 1048576 ∧ s.f.length ≤ 1048576
 fit : fitB ss = true
 ln : ss.length ≤ 1000000
def BlP (C : RC) (w : World) (lb : List Nat) (vL vO : Value) (r : ER) (s' : ES) (x : Ending) (w' : World) : Prop := (∃ y, x = .returned y) ∧ ∃ vL' vI' vO' vl', RS C w' (stR r) (rtR r) vl' lb vL' vI' vO' s' ∧ (∀ v, r = .ret v → vl' = v) ∧ Tcs (TSx C lb vL vO) w w' ∧ (∀ k, vO'.ownBlock = some k → vO.ownBlock = some k ∨ w.heap.size ≤ k) ∧ ∀ k, vL'.ownBlock = some k → vL.ownBlock = some k ∨ w.heap.size ≤ k
def BlS (C : RC) (n : Nat) : Prop := ∀ (ss : List St) (z : ES) (r : ER) (z' : ES), Ev C.t C.fr n (.bl ss) z r z' → OkB C.t (z.l.map Prod.fst) ss → Scp C.t (z.l.map Prod.fst) → z.l.length + z.u ≤ 200000 → ∀ (w : World) (vl : Int) (lb : List Nat) (vL vI vO vs : Value), RS C w 0 false vl lb vL vI vO z → Stmts C.w0 vs ss → Calls Tryd.prog 54 #[.pointer (some ⟨C.P, 0, none⟩), vs] w fun x w' => BlP C w lb vL vO r z' x w'
def Tk.va : Tk → Bool
 | .inl _ => true
 | .inr (.inr (.inr (.inr (_, _)))) => true
 | _ => false
theorem Ev.nov {t : Tr} {fr : List Int} {n : Nat} {k : Tk} {s : ES} {r : ER} {s' : ES} (h : Ev t fr n k s r s') : k.va = false → ∀ v, r ≠ .val v := by
 induction h using Ev_i with
 | kid n e A b st v j c s' h1 h2 h3 h4 h5 h6 i5 i6 => intro h; cases h
 | dry n e A b st v h1 h2 h3 h4 h5 i4 => intro h; cases h
 | work n e A b st v h1 h2 h3 h4 h5 h6 i5 => intro h; cases h
 | call n e A b st v f r s' h1 h2 h3 h4 h5 h6 i4 i6 => intro h; cases h
 | left n e b s c s' h1 h2 h3 i3 => intro h; cases h
 | ldry n e b s x s' h1 h2 h3 h4 i3 => intro h; cases h
 | lone n e b s x s' h1 h2 h3 h4 i3 => intro h; cases h
 | rigt n e b s x s1 c s' h1 h2 h3 h4 h5 i3 i5 => intro h; cases h
 | rdry n e b s x s1 y s' h1 h2 h3 h4 h5 h6 i3 i5 => intro h; cases h
 | both n e b s x s1 y s' h1 h2 h3 h4 h5 h6 i3 i5 => intro h; cases h
 | pbad n s a b z c z' h1 i1 => intro _ v hv; cases hv
 | decl n s a b z v z' h1 h2 i2 => intro _ v hv; cases hv
 | set n s a b z v z' h1 h2 i2 => intro _ v hv; cases hv
 | sbad n s a b z v z1 c z' h1 h2 h3 i2 i3 => intro _ v hv; cases hv
 | smis n s a b z v z1 x z' h1 h2 h3 h4 i2 i3 => intro _ v hv; cases hv
 | stor n s a b z v z1 x z' h1 h2 h3 h4 i2 i3 => intro _ v hv; cases hv
 | ifth n s a b z v z1 r z' h1 h2 h3 h4 i2 i4 => intro _; exact i4 rfl
 | ifel n s a b z z1 r z' h1 h2 h3 i2 i3 => intro _; exact i3 rfl
 | whno n s a b z z' h1 h2 i2 => intro _ v hv; cases hv
 | whn n s a b z v z1 r z' h1 h2 h3 h4 h5 i2 i4 => intro _; exact i4 rfl
 | whdr n s a b z v z1 z' h1 h2 h3 h4 h5 i2 i4 => intro _ v hv; cases hv
 | whag n s a b z v z1 z2 r z' h1 h2 h3 h4 h5 h6 i2 i4 i6 => intro _; exact i6 rfl
 | retn n s a b z v z' h1 h2 i2 => intro _ v hv; cases hv
 | tell n s a b z v z' h1 h2 i2 => intro _ v hv; cases hv
 | only n s a b z v z' h1 h2 i2 => intro _ v hv; cases hv
 | nil n z => intro _ v hv; cases hv
 | sdry n s q z h1 => intro _ v hv; cases hv
 | send n s q z r z' h1 h2 h3 i2 => intro _; exact i2 rfl
 | next n s q z z1 r z' h1 h2 h3 i2 i3 => intro _; exact i3 rfl
 | blk n ss z r z' h1 i1 => intro _; exact i1 rfl
 | run n f vs z hf r z' h1 i1 => intro h; cases h
theorem TSx.up {C : RC} {N : Nat} {lb : List Nat} {vL vO vL1 vO1 : Value} (ho : ∀ k, vO1.ownBlock = some k → vO.ownBlock = some k ∨ N ≤ k) (hl : ∀ k, vL1.ownBlock = some k → vL.ownBlock = some k ∨ N ≤ k) : ∀ k, TSx C lb vL1 vO1 k → TSx C lb vL vO k ∨ N ≤ k := fun k hk => by
 rcases hk with (hk | hk | hk) | hk | hk
 ·exact .inl (.inl (.inl hk))
 ·exact .inl (.inl (.inr (.inl hk)))
 ·exact (ho k hk).imp_left (fun h => .inl (.inr (.inr h)))
 ·exact .inl (.inr (.inl hk))
 ·exact (hl k hk).imp_left (fun h => .inr (.inr h))
theorem TSx.lt {C : RC} {w : World} {st : Int} {rt : Bool} {vl : Int} {lb : List Nat} {vL vI vO : Value} {s : ES} (h : RS C w st rt vl lb vL vI vO s) : ∀ k, TSx C lb vL vO k → k < w.heap.size := fun k hk => by
 rcases hk with hk | hk | hk
 ·exact (TEx.lt h k hk).1
 ·exact (h.rng k (by unfold RC.K; exact List.mem_cons_of_mem _ (List.mem_cons_of_mem _ (List.mem_append_right _ hk)))).2
 ·exact (World.ownsRow.lt h.lrow k hk).2
def fuelW (C : RC) (w : World) : Nat := match w.cell? ⟨C.P, 7, none⟩ with
 | some (.int _ u) => (C.F - u).toNat
 | _ => 0
theorem RS.fuel {C : RC} {w : World} {st : Int} {rt : Bool} {vl : Int} {lb : List Nat} {vL vI vO : Value} {s : ES} (h : RS C w st rt vl lb vL vI vO s) : fuelW C w = s.u := by
 unfold fuelW
 rw [(h.box 7 _ rfl).1]
 show (C.F - (C.F - (s.u : Int))).toNat = s.u
 omega
def wb (u : Int) : Nat := if u = 0 then 0 else 1
theorem wb_le (u : Int) : wb u ≤ 1 := by unfold wb; split <;> omega
theorem wb_ne {u : Int} (h : u ≠ 0) : wb u = 1 := by unfold wb; rw [if_neg h]
theorem wb_0 : wb 0 = 0 := rfl
end
end Go.Proofs.YtolkpkklinoegaaDoor
