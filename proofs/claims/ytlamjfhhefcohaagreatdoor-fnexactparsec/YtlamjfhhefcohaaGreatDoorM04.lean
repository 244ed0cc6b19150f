import Derived.Test.YtlamjfhhefcohaaGreatDoorM03
import Derived.RegionTactic
import Derived.Deep.Cut
namespace Go.Proofs.YtlamjfhhefcohaaGreatDoor
set_option linter.unusedVariables false
set_option linter.unusedSimpArgs false
set_option maxRecDepth 100000
set_option maxHeartbeats 16000000
section
open Go.RowKit
structure GT where
 P : Nat
 bT : Nat
 cT : Nat
 K : Nat
 T : Nat → To
structure TkS (w : World) (G : GT) : Prop where
 c : ∀ j, j ≤ G.K → w.cell? ⟨G.bT, j * 4, none⟩ = some (.int .i64 (G.T j).kind) ∧ w.cell? ⟨G.bT, j * 4 + 1, none⟩ = some (.string (G.T j).text) ∧ w.cell? ⟨G.bT, j * 4 + 2, none⟩ = some (.int .i64 (G.T j).num) ∧ w.cell? ⟨G.bT, j * 4 + 3, none⟩ = some (.int .i64 ((G.T j).pl : Int))
def GT.box (G : GT) (s : PS) : List Value := [.slice (some ⟨G.bT, 0, none⟩) (G.K + 1) G.cT, .int .i64 (s.i : Int), .int .i64 s.op, .int .i64 s.er, .int .i64 s.pl]
structure PSt (G : GT) (w : World) (s : PS) : Prop where
 box : FrC w G.P (G.box s)
 tok : TkS w G
 ne : G.bT ≠ G.P
 wf : s.i ≤ G.K
 kk : G.K ≤ 1000000
 ob : -9000000 ≤ s.op ∧ s.op ≤ 9000000
theorem PSt.lt {G : GT} {w : World} {s : PS} (h : PSt G w s) : G.P < w.heap.size ∧ G.bT < w.heap.size := ⟨World.block_lt_of_cell? _ _ (h.box 0 _ rfl).1, World.block_lt_of_cell? _ _ (h.tok.c 0 (Nat.zero_le _)).1⟩
theorem TkS.tcs {S : Nat → Prop} {w w' : World} {G : GT} (h : TkS w G) (ht : Tcs S w w') (hn : ¬ S G.bT) : TkS w' G := ⟨fun j hj => by
 obtain ⟨h1, h2, h3, h4⟩ := h.c j hj
 have hb := ht.block G.bT (World.block_lt_of_cell? _ _ h1) hn
 exact ⟨(World.cell?_of_block (a := ⟨G.bT, _, none⟩) hb).trans h1, (World.cell?_of_block (a := ⟨G.bT, _, none⟩) hb).trans h2, (World.cell?_of_block (a := ⟨G.bT, _, none⟩) hb).trans h3, (World.cell?_of_block (a := ⟨G.bT, _, none⟩) hb).trans h4⟩⟩
theorem PSt.tcs {G : GT} {S : Nat → Prop} {w w' : World} {s : PS} (h : PSt G w s) (ht : Tcs S w w') (hP : ¬ S G.P) (hb : ¬ S G.bT) : PSt G w' s := ⟨h.box.tcs h.lt.1 ht hP, h.tok.tcs ht hb, h.ne, h.wf, h.kk, h.ob⟩
theorem PSt.below {G : GT} {w w' : World} {s : PS} (h : PSt G w s) (hb : Below w.heap.size w w') : PSt G w' s := h.tcs (S := fun _ => False) hb.tcs (fun h => h) (fun h => h)
theorem PSt.put {G : GT} {w : World} {s s' : PS} (h : PSt G w s) (i : Nat) (u : Value) (he : (G.box s).set i u = G.box s') (hw : s'.i ≤ G.K) (ho : -9000000 ≤ s'.op ∧ s'.op ≤ 9000000) : PSt G (w.setCell ⟨G.P, i, none⟩ u) s' ∧ Tcs (fun k => k = G.P) w (w.setCell ⟨G.P, i, none⟩ u) := by
 have ht : Tcs (fun k => k = G.P) w (w.setCell ⟨G.P, i, none⟩ u) := (Tcs.refl (fun k => k = G.P) w).setCell (p := ⟨G.P, i, none⟩) rfl u
 have hb := h.box.set i u
 rw [he] at hb
 exact ⟨⟨hb, h.tok.tcs ht h.ne, h.ne, hw, h.kk, ho⟩, ht⟩
theorem str_eq (a b : ByteArray) : (a.toList == b.toList) = decide (a = b) := by
 by_cases h : a = b
 ·subst h; simp
 ·rw [decide_eq_false h, beq_eq_false_iff_ne]
  intro e
  rw [ByteArray.toList_eq, ByteArray.toList_eq] at e
  exact h (ByteArray.ext (Array.ext' e))
def toV (t : To) : Value := .agg #[.int .i64 t.kind, .string t.text, .int .i64 t.num, .int .i64 (t.pl : Int)]
set_option maxRecDepth 100000 in
set_option maxHeartbeats 1000000 in
theorem tok0_any {G : GT} {w : World} {s : PS} (h : PSt G w s) : Calls Tryz.prog 23 #[.pointer (some ⟨G.P, 0, none⟩)] w fun e w' => e = .returned (toV (G.T s.i)) ∧ Below w.heap.size w w' := by
 obtain ⟨W1, hW1⟩ : ∃ W1, W1 = w.alloc (.cells #[.int .i64 0, .string ⟨#[]⟩, .int .i64 0, .int .i64 0] 55) := ⟨_, rfl⟩
 obtain ⟨B, hB⟩ : ∃ B, B = w.heap.size := ⟨_, rfl⟩
 have hb1 : Below w.heap.size w W1 := by rw [hW1]; exact (Below.refl _ _).alloc (Nat.le_refl _) _
 have hx1 : FrC W1 B [.int .i64 0, .string ⟨#[]⟩, .int .i64 0, .int .i64 0] := by rw [hW1, hB]; exact box_fr w _ _ (by show 4 ≤ 1000; omega)
 have h1 := h.below hb1
 obtain ⟨c0, c1, c2, c3⟩ := h1.tok.c s.i h1.wf
 have p0 : W1.cell? ⟨G.P, 0, none⟩ = some (.slice (some ⟨G.bT, 0, none⟩) (G.K + 1) G.cT) := (h1.box 0 _ rfl).1
 have p1 : W1.cell? ⟨G.P, 1, none⟩ = some (.int .i64 (s.i : Int)) := (h1.box 1 _ rfl).1
 have hlt : (s.i : Int) < (G.K + 1 : Nat) := by have := h.wf; omega
 have hi0 : (0 : Int) ≤ (s.i : Int) := by omega
 have hl := h.lt
 have n1 : ¬ B = G.P := by omega
 have n2 : ¬ B = G.bT := by omega
 obtain ⟨y0, z0⟩ := hx1 0 _ rfl
 obtain ⟨y1, z1⟩ := hx1 1 _ rfl
 obtain ⟨y2, z2⟩ := hx1 2 _ rfl
 obtain ⟨y3, z3⟩ := hx1 3 _ rfl
 have HX := hide hx1
 have HW1 := hide hW1
 have HB := hide hB
 have HB1 := hide hb1
 unfold toV
 generalize (G.T s.i).kind = tk at *
 generalize (G.T s.i).text = tt at *
 generalize (G.T s.i).num = tn at *
 generalize ((G.T s.i).pl : Int) = tp at *
 clear h h1 hW1 hB hb1 hx1
 go_enter Tryz.func23, Tryz.ntmps23
 go_upto_region 1 with fail
 rw [← HW1.out, ← HB.out]
 go_region
 go_wp2_with fail
 obtain ⟨X, hX⟩ : ∃ X, X = ((((W1.setCell ⟨B, 0, none⟩ (.int .i64 tk)).setCell ⟨B, 1, none⟩ (.string tt)).setCell ⟨B, 2, none⟩ (.int .i64 tn)).setCell ⟨B, 3, none⟩ (.int .i64 tp)).drew := ⟨_, rfl⟩
 rw [← hX]
 have hF := ((((HX.out.set 0 (.int .i64 tk)).set 1 (.string tt)).set 2 (.int .i64 tn)).set 3 (.int .i64 tp)).below (Below.refl _ _).drew
 have hBe : Below w.heap.size w X := by
  have hz : w.heap.size ≤ B := Nat.le_of_eq HB.out.symm
  rw [hX]
  exact ((((HB1.out.setCell (p := ⟨B, 0, none⟩) hz _).setCell (p := ⟨B, 1, none⟩) hz _).setCell (p := ⟨B, 2, none⟩) hz _).setCell (p := ⟨B, 3, none⟩) hz _).drew
 rw [← hX] at hF
 have t0 := (hF 0 _ rfl).1
 have t1 := (hF 1 _ rfl).1
 have t2 := (hF 2 _ rfl).1
 have t3 := (hF 3 _ rfl).1
 clear hX hF
 exact bodyPost_ret (v := .agg #[.int .i64 tk, .string tt, .int .i64 tn, .int .i64 tp]) (by simp [results, Tryz.results23, go_sem, t0, t1, t2, t3]) rfl ⟨rfl, hBe⟩
theorem PSt.bw {G : GT} {w w' : World} {s : PS} (h : PSt G w s) (hb : Below w.heap.size w w') {X : World} {s' : PS} (hX : PSt G X s' ∧ Tcs (fun k => k = G.P) w' X) : PSt G X s' ∧ Tcs (fun k => k = G.P) w X := ⟨hX.1, (hb.tcs (S := fun k => k = G.P)).trans hX.2⟩
theorem fld_to (t : To) (k : Nat) (x : Value) (hx : #[.int .i64 t.kind, .string t.text, .int .i64 t.num, .int .i64 (t.pl : Int)][k]? = some x) (hk : k < 4) (W : World) : (Instr.field 55 (toV t) k).run Tryz.prog W = .ok x W := by
 unfold toV
 rcases (show k = 0 ∨ k = 1 ∨ k = 2 ∨ k = 3 by omega) with rfl | rfl | rfl | rfl
 all_goals
  simp at hx
  subst hx
  kernel_rfl
set_option maxRecDepth 100000 in
set_option maxHeartbeats 1000000 in
theorem fail_any {G : GT} {w : World} {s : PS} (h : PSt G w s) (c : Int) : Calls Tryz.prog 82 #[.pointer (some ⟨G.P, 0, none⟩), .int .i64 c] w fun e w' => e = .returned (.tuple #[]) ∧ PSt G w' (faS G.T c s) ∧ Tcs (fun k => k = G.P) w w' := by
 have p3 : w.cell? ⟨G.P, 3, none⟩ = some (.int .i64 s.er) := (h.box 3 _ rfl).1
 have f3 : w.frozen? ⟨G.P, 3, none⟩ = false := (h.box 3 _ rfl).2
 by_cases h0 : s.er = 0
 ·rw [h0] at p3
  have e1 : faS G.T c s = { s with er := if (G.T s.i).kind = 5 then 2 else c, pl := ((G.T s.i).pl : Int) } := by unfold faS; rw [if_pos h0]
  obtain ⟨s9, hs9⟩ : ∃ s9, s9 = faS G.T c s := ⟨_, rfl⟩
  rw [← hs9]
  rw [← hs9] at e1
  have HS9 := hide e1
  clear hs9
  obtain ⟨h1, t1⟩ := h.put (s' := { s with er := c }) 3 (.int .i64 c) rfl h.wf h.ob
  obtain ⟨W1, hW1⟩ : ∃ W1, W1 = w.setCell ⟨G.P, 3, none⟩ (.int .i64 c) := ⟨_, rfl⟩
  rw [← hW1] at h1 t1
  have HT := hide (tok0_any h1)
  have H1 := hide h1
  have Ht1 := hide t1
  have HW1 := hide hW1
  have hf0 := fun W => fld_to (G.T s.i) 0 _ rfl (by decide) W
  have hf3 := fun W => fld_to (G.T s.i) 3 _ rfl (by decide) W
  clear h h1 t1 hW1 e1
  go_enter Tryz.func82, Tryz.ntmps82
  go_upto_region 2 with fail
  rw [← HW1.out]
  go_wp2_with fail
  refine HT.out.mono ?_
  rintro e w2 ⟨rfl, hb2⟩
  have h2 := H1.out.below hb2
  have t2 := Ht1.out.of_below hb2
  have HT2 := hide (tok0_any h2)
  have H2 := hide h2
  have Ht2 := hide t2
  have q3 : w2.cell? ⟨G.P, 3, none⟩ = some (.int .i64 c) := (h2.box 3 _ rfl).1
  have g3 : w2.frozen? ⟨G.P, 3, none⟩ = false := (h2.box 3 _ rfl).2
  clear h2 t2 hb2 HT p3 f3
  by_cases h5 : (G.T s.i).kind = 5
  ·obtain ⟨h3, t3⟩ := H2.out.put (s' := { s with er := 2 }) 3 (.int .i64 2) rfl H2.out.wf H2.out.ob
   obtain ⟨W3, hW3⟩ : ∃ W3, W3 = w2.setCell ⟨G.P, 3, none⟩ (.int .i64 2) := ⟨_, rfl⟩
   rw [← hW3] at h3 t3
   have HT3 := hide (tok0_any h3)
   have H3 := hide h3
   have Ht3 := hide (Ht2.out.trans t3)
   have HW3 := hide hW3
   have H5 := hide h5
   rw [h5] at hf0
   have e9 : s9 = { s with er := 2, pl := ((G.T s.i).pl : Int) } := by rw [HS9.out, if_pos h5]
   have HE9 := hide e9
   clear h3 t3 hW3 HT2 h5 e9
   go_wp2_with fail
   rw [← HW3.out]
   refine HT3.out.mono ?_
   rintro e w4 ⟨rfl, hb4⟩
   have h4 := H3.out.below hb4
   obtain ⟨h6, t6⟩ := h4.put (s' := { s with er := 2, pl := ((G.T s.i).pl : Int) }) 4 (.int .i64 ((G.T s.i).pl : Int)) rfl h4.wf h4.ob
   have r4 : w4.cell? ⟨G.P, 4, none⟩ = some (.int .i64 s.pl) := (h4.box 4 _ rfl).1
   have k4 : w4.frozen? ⟨G.P, 4, none⟩ = false := (h4.box 4 _ rfl).2
   have HF := hide (And.intro h6 ((Ht3.out.of_below hb4).trans t6))
   clear h4 h6 t6 hb4 q3 g3
   go_wp2_with fail
   exact bodyPost_end (v := .tuple #[]) (by simp [results, Tryz.results82, go_sem]) rfl ⟨rfl, by rw [HE9.out]; exact HF.out.1, HF.out.2⟩
  ·have h5' : ((G.T s.i).kind == 5) = false := by simpa using h5
   have HE9 : Hid (s9 = { s with er := c, pl := ((G.T s.i).pl : Int) }) := by show _ = _; rw [HS9.out, if_neg h5]
   clear h5
   go_wp2_with fail
   refine HT2.out.mono ?_
   rintro e w4 ⟨rfl, hb4⟩
   have h4 := H2.out.below hb4
   obtain ⟨h6, t6⟩ := h4.put (s' := { s with er := c, pl := ((G.T s.i).pl : Int) }) 4 (.int .i64 ((G.T s.i).pl : Int)) rfl h4.wf h4.ob
   have r4 : w4.cell? ⟨G.P, 4, none⟩ = some (.int .i64 s.pl) := (h4.box 4 _ rfl).1
   have k4 : w4.frozen? ⟨G.P, 4, none⟩ = false := (h4.box 4 _ rfl).2
   have HF := hide (And.intro h6 ((Ht2.out.of_below hb4).trans t6))
   clear h4 h6 t6 hb4 q3 g3
   go_wp2_with fail
   exact bodyPost_end (v := .tuple #[]) (by simp [results, Tryz.results82, go_sem]) rfl ⟨rfl, by rw [HE9.out]; exact HF.out.1, HF.out.2⟩
 ·have h0' : (s.er != 0) = true := by simpa using h0
  have e1 : faS G.T c s = s := by unfold faS; rw [if_neg h0]
  rw [e1]
  have H := hide h
  clear h
  go_enter Tryz.func82, Tryz.ntmps82
  go_wp2_with fail
  exact bodyPost_ret (v := .tuple #[]) (by simp [results, Tryz.results82, go_sem]) rfl ⟨rfl, H.out, Tcs.refl _ _⟩
set_option maxRecDepth 100000 in
set_option maxHeartbeats 1000000 in
theorem is_any {G : GT} {w : World} {s : PS} (h : PSt G w s) (x : List UInt8) : Calls Tryz.prog 51 #[.pointer (some ⟨G.P, 0, none⟩), .string (tx x)] w fun e w' => e = .returned (.bool (isS G.T x s)) ∧ Below w.heap.size w w' := by
 have HT := hide (tok0_any h)
 have H := hide h
 have hb0 : decide ((G.T s.i).text = tx x) = true ∨ decide ((G.T s.i).text = tx x) = false := by cases decide ((G.T s.i).text = tx x) <;> simp
 unfold toV at HT
 obtain ⟨b, hb⟩ : ∃ b, b = isS G.T x s := ⟨_, rfl⟩
 rw [← hb]
 unfold isS wdB at hb
 have HBb := hide hb
 clear h hb
 generalize htk : (G.T s.i).kind = tk at *
 generalize htt : (G.T s.i).text = tt at *
 generalize (G.T s.i).num = tn at *
 generalize ((G.T s.i).pl : Int) = tp at *
 clear htk htt
 generalize tx x = xx at *
 go_enter Tryz.func51, Tryz.ntmps51
 go_wp2_with fail
 refine HT.out.mono ?_
 rintro e w2 ⟨rfl, hb2⟩
 obtain ⟨W3, hW3⟩ : ∃ W3, W3 = w2.alloc (.cells #[.int .i64 tk, .string tt, .int .i64 tn, .int .i64 tp] 55) := ⟨_, rfl⟩
 have hb3 : Below w2.heap.size w2 W3 := by rw [hW3]; exact (Below.refl _ _).alloc (Nat.le_refl _) _
 have hx3 : FrC W3 w2.heap.size [.int .i64 tk, .string tt, .int .i64 tn, .int .i64 tp] := by rw [hW3]; exact box_fr w2 _ _ (by show 4 ≤ 1000; omega)
 have h3 := (H.out.below hb2).below hb3
 have p3 : W3.cell? ⟨G.P, 3, none⟩ = some (.int .i64 s.er) := (h3.box 3 _ rfl).1
 have c0 := (hx3 0 _ rfl).1
 have c1 := (hx3 1 _ rfl).1
 have HB := hide (hb2.trans (hb3.mono hb2.size))
 have HW3 := hide hW3
 clear h3 hx3 hb3 hb2 hW3 HT H
 go_upto_region 2 with fail
 rw [← HW3.out]
 by_cases h0 : s.er = 0
 ·rw [h0] at p3
  by_cases k1 : tk = 1
  ·subst k1
   go_wp2_with fail
   go_ret
   exact ⟨by rw [HBb.out]; simp [h0, str_eq], HB.out⟩
  ·by_cases k3 : tk = 3
   ·subst k3
    go_wp2_with fail
    go_ret
    exact ⟨by rw [HBb.out]; simp [h0, str_eq], HB.out⟩
   ·have e1 : (tk == 1) = false := by simpa using k1
    have e3 : (tk == 3) = false := by simpa using k3
    go_wp2_with fail
    go_ret
    exact ⟨by rw [HBb.out]; simp [k1, k3], HB.out⟩
 ·have e0 : (s.er == 0) = false := by simpa using h0
  go_wp2_with fail
  go_ret
  exact ⟨by rw [HBb.out]; simp [h0], HB.out⟩
set_option maxRecDepth 100000 in
set_option maxHeartbeats 1000000 in
theorem take_any {G : GT} {w : World} {s : PS} {x : List UInt8} (h : PSt G w s) (hK : isS G.T x s = true → s.i < G.K) : Calls Tryz.prog 49 #[.pointer (some ⟨G.P, 0, none⟩), .string (tx x)] w fun e w' => e = .returned (.tuple #[]) ∧ PSt G w' (taS G.T x s) ∧ Tcs (fun k => k = G.P) w w' := by
 have HI := hide (is_any h x)
 have H := hide h
 unfold taS
 generalize tx x = xx at *
 cases hi : isS G.T x s with
 | true =>
  rw [hi] at HI
  rw [if_pos rfl]
  have hlt := hK hi
  clear h hi hK
  go_enter Tryz.func49, Tryz.ntmps49
  go_wp2_with fail
  refine HI.out.mono ?_
  rintro e w2 ⟨rfl, hb2⟩
  have h2 := H.out.below hb2
  obtain ⟨h3, t3⟩ := h2.put (s' := s.ad) 1 (.int .i64 ((s.i + 1 : Nat) : Int)) rfl (by show s.i + 1 ≤ G.K; omega) h2.ob
  have p1 : w2.cell? ⟨G.P, 1, none⟩ = some (.int .i64 (s.i : Int)) := (h2.box 1 _ rfl).1
  have f1 : w2.frozen? ⟨G.P, 1, none⟩ = false := (h2.box 1 _ rfl).2
  have hk := h2.kk
  have HF := hide (And.intro h3 ((hb2.tcs (S := fun k => k = G.P)).trans t3))
  have hwr : ((s.i + 1 : Nat) : Int) = (s.i : Int) + 1 := by omega
  rw [hwr] at HF
  clear h2 h3 t3 hb2 HI hwr
  go_wp2_with fail
  exact bodyPost_end (v := .tuple #[]) (by simp [results, Tryz.results49, go_sem]) rfl ⟨rfl, HF.out.1, HF.out.2⟩
 | false =>
  rw [hi] at HI
  rw [if_neg (by simp)]
  clear h hi hK
  go_enter Tryz.func49, Tryz.ntmps49
  go_wp2_with fail
  refine HI.out.mono ?_
  rintro e w2 ⟨rfl, hb2⟩
  have HF := hide (fail_any (H.out.below hb2) 3)
  have Hb := hide (hb2.tcs (S := fun k => k = G.P))
  clear hb2 HI
  go_wp2_with fail
  refine HF.out.mono ?_
  rintro e w3 ⟨rfl, h3, t3⟩
  have HE := hide (And.intro h3 (Hb.out.trans t3))
  clear h3 t3 HF
  go_wp2_with fail
  exact bodyPost_ret (v := .tuple #[]) (by simp [results, Tryz.results49, go_sem]) rfl ⟨rfl, HE.out.1, HE.out.2⟩
end
section
open Go.RowKit
theorem is_lt {G : GT} (hL : Las G.T G.K) {x : List UInt8} {s : PS} (h : s.i ≤ G.K) (hi : isS G.T x s = true) : s.i < G.K := (is_ad hL h hi).1
theorem ta_any {G : GT} (hL : Las G.T G.K) {w : World} {s : PS} (h : PSt G w s) (x : List UInt8) : Calls Tryz.prog 49 #[.pointer (some ⟨G.P, 0, none⟩), .string (tx x)] w fun e w' => e = .returned (.tuple #[]) ∧ PSt G w' (taS G.T x s) ∧ Tcs (fun k => k = G.P) w w' := take_any h (fun hi => is_lt hL h.wf hi)
theorem ta_op {T : Nat → To} (x : List UInt8) (s : PS) : (taS T x s).op = s.op := by
 unfold taS faS PS.ad
 (repeat' split) <;> rfl
theorem fa_op {T : Nat → To} (c : Int) (s : PS) : (faS T c s).op = s.op := by
 unfold faS
 split <;> rfl
set_option maxRecDepth 100000 in
set_option maxHeartbeats 1000000 in
theorem open_any {G : GT} (hL : Las G.T G.K) {w : World} {s : PS} (h : PSt G w s) (ho : -8000000 ≤ s.op ∧ s.op ≤ 8000000) (x : List UInt8) : Calls Tryz.prog 54 #[.pointer (some ⟨G.P, 0, none⟩), .string (tx x)] w fun e w' => e = .returned (.tuple #[]) ∧ PSt G w' (opS G.T x s) ∧ Tcs (fun k => k = G.P) w w' := by
 have HI := hide (is_any h x)
 have H := hide h
 have HL := hide hL
 obtain ⟨s1, hs1⟩ : ∃ s1, s1 = (if isS G.T x s = true ∧ s.op = 30 then faS G.T 4 s else s) := ⟨_, rfl⟩
 have hop1 : s1.op = s.op := by rw [hs1]; split; exact fa_op _ _; rfl
 have e9 : opS G.T x s = { taS G.T x s1 with op := s.op + 1 } := by
  unfold opS
  dsimp only
  rw [← hs1, ta_op, hop1]
 obtain ⟨s9, hs9⟩ : ∃ s9, s9 = opS G.T x s := ⟨_, rfl⟩
 rw [← hs9]
 rw [← hs9] at e9
 have HE9 := hide e9
 -- from s1 on
 have HEnd : Hid (∀ W, PSt G W (taS G.T x s1) → PSt G (W.setCell ⟨G.P, 2, none⟩ (.int .i64 (s.op + 1))) s9 ∧ Tcs (fun k => k = G.P) W (W.setCell ⟨G.P, 2, none⟩ (.int .i64 (s.op + 1))) ∧ W.cell? ⟨G.P, 2, none⟩ = some (.int .i64 s.op) ∧ W.frozen? ⟨G.P, 2, none⟩ = false) := fun W hW => by
  obtain ⟨a, b⟩ := hW.put (s' := { taS G.T x s1 with op := s.op + 1 }) 2 (.int .i64 (s.op + 1)) rfl hW.wf (by show -9000000 ≤ s.op + 1 ∧ s.op + 1 ≤ 9000000; omega)
  rw [HE9.out]
  have hc := hW.box 2 _ rfl
  rw [ta_op, hop1] at hc
  exact ⟨a, b, hc.1, hc.2⟩
 have HTa : Hid (∀ W, PSt G W s1 → Calls Tryz.prog 49 #[.pointer (some ⟨G.P, 0, none⟩), .string (tx x)] W fun e w' => e = .returned (.tuple #[]) ∧ PSt G w' (taS G.T x s1) ∧ Tcs (fun k => k = G.P) W w') := fun W hW => ta_any HL.out hW x
 have HS1 := hide hs1
 generalize tx x = xx at *
 clear h hL hs1 hs9 e9 hop1
 cases hi : isS G.T x s with
 | false =>
  rw [hi] at HI
  have e1 : s1 = s := by rw [HS1.out, hi]; simp
  subst e1
  clear hi HS1 HE9
  go_enter Tryz.func54, Tryz.ntmps54
  go_wp2_with fail
  refine HI.out.mono ?_
  rintro e w2 ⟨rfl, hb2⟩
  have HT := hide (HTa.out w2 (H.out.below hb2))
  have Hb := hide (hb2.tcs (S := fun k => k = G.P))
  clear hb2 HI
  go_wp2_with fail
  refine HT.out.mono ?_
  rintro e w3 ⟨rfl, h3, t3⟩
  obtain ⟨h4, t4, c4, f4⟩ := HEnd.out w3 h3
  have HF := hide (And.intro h4 ((Hb.out.trans t3).trans t4))
  clear h3 t3 h4 t4 HT
  go_wp2_with fail
  exact bodyPost_end (v := .tuple #[]) (by simp [results, Tryz.results54, go_sem]) rfl ⟨rfl, HF.out.1, HF.out.2⟩
 | true =>
  rw [hi] at HI
  by_cases h30 : s.op = 30
  ·have e1 : s1 = faS G.T 4 s := by rw [HS1.out, hi, h30]; simp
   have HE1 := hide e1
   have h3e : (s.op == 30) = true := by simpa using h30
   have HOp := hide h30
   clear hi HS1 e1 h30
   go_enter Tryz.func54, Tryz.ntmps54
   go_wp2_with fail
   refine HI.out.mono ?_
   rintro e w2 ⟨rfl, hb2⟩
   have h2 := H.out.below hb2
   have p2 : w2.cell? ⟨G.P, 2, none⟩ = some (.int .i64 s.op) := (h2.box 2 _ rfl).1
   have HFa := hide (fail_any h2 4)
   rw [← HE1.out] at HFa
   have Hb := hide (hb2.tcs (S := fun k => k = G.P))
   clear hb2 HI h2
   go_wp2_with fail
   refine HFa.out.mono ?_
   rintro e w3 ⟨rfl, h3, t3⟩
   have HT := hide (HTa.out w3 h3)
   have Ht3 := hide t3
   clear h3 t3 HFa p2
   go_wp2_with fail
   refine HT.out.mono ?_
   rintro e w4 ⟨rfl, h4, t4⟩
   obtain ⟨h5, t5, c5, f5⟩ := HEnd.out w4 h4
   have HF := hide (And.intro h5 (((Hb.out.trans Ht3.out).trans t4).trans t5))
   clear h4 t4 h5 t5 HT
   go_wp2_with fail
   exact bodyPost_end (v := .tuple #[]) (by simp [results, Tryz.results54, go_sem]) rfl ⟨rfl, HF.out.1, HF.out.2⟩
  ·have e1 : s1 = s := by rw [HS1.out]; simp [h30]
   subst e1
   have h3e : (s1.op == 30) = false := by simpa using h30
   clear hi HS1 HE9 h30
   go_enter Tryz.func54, Tryz.ntmps54
   go_wp2_with fail
   refine HI.out.mono ?_
   rintro e w2 ⟨rfl, hb2⟩
   have h2 := H.out.below hb2
   have p2 : w2.cell? ⟨G.P, 2, none⟩ = some (.int .i64 s1.op) := (h2.box 2 _ rfl).1
   have HT := hide (HTa.out w2 h2)
   have Hb := hide (hb2.tcs (S := fun k => k = G.P))
   clear hb2 HI h2
   go_wp2_with fail
   refine HT.out.mono ?_
   rintro e w3 ⟨rfl, h3, t3⟩
   clear p2
   obtain ⟨h4, t4, c4, f4⟩ := HEnd.out w3 h3
   have HF := hide (And.intro h4 ((Hb.out.trans t3).trans t4))
   clear h3 t3 h4 t4 HT
   go_wp2_with fail
   exact bodyPost_end (v := .tuple #[]) (by simp [results, Tryz.results54, go_sem]) rfl ⟨rfl, HF.out.1, HF.out.2⟩
set_option maxRecDepth 100000 in
set_option maxHeartbeats 1000000 in
theorem close_any {G : GT} (hL : Las G.T G.K) {w : World} {s : PS} (h : PSt G w s) (ho : -8000000 ≤ s.op ∧ s.op ≤ 8000000) (x : List UInt8) : Calls Tryz.prog 56 #[.pointer (some ⟨G.P, 0, none⟩), .string (tx x)] w fun e w' => e = .returned (.tuple #[]) ∧ PSt G w' (clS G.T x s) ∧ Tcs (fun k => k = G.P) w w' := by
 have HT := hide (ta_any hL h x)
 have HEnd : Hid (∀ W, PSt G W (taS G.T x s) → PSt G (W.setCell ⟨G.P, 2, none⟩ (.int .i64 (s.op - 1))) (clS G.T x s) ∧ Tcs (fun k => k = G.P) W (W.setCell ⟨G.P, 2, none⟩ (.int .i64 (s.op - 1))) ∧ W.cell? ⟨G.P, 2, none⟩ = some (.int .i64 s.op) ∧ W.frozen? ⟨G.P, 2, none⟩ = false) := fun W hW => by
  obtain ⟨a, b⟩ := hW.put (s' := clS G.T x s) 2 (.int .i64 (s.op - 1)) (by unfold clS; rw [ta_op]; rfl) hW.wf (by unfold clS; dsimp only; rw [ta_op]; omega)
  have hc := hW.box 2 _ rfl
  rw [ta_op] at hc
  exact ⟨a, b, hc.1, hc.2⟩
 generalize tx x = xx at *
 clear h hL
 go_enter Tryz.func56, Tryz.ntmps56
 go_wp2_with fail
 refine HT.out.mono ?_
 rintro e w3 ⟨rfl, h3, t3⟩
 obtain ⟨h4, t4, c4, f4⟩ := HEnd.out w3 h3
 have HF := hide (And.intro h4 (t3.trans t4))
 clear h3 t3 h4 t4 HT
 go_wp2_with fail
 exact bodyPost_end (v := .tuple #[]) (by simp [results, Tryz.results56, go_sem]) rfl ⟨rfl, HF.out.1, HF.out.2⟩
end
section
section
variable {T : Nat → To}
theorem on_op (x : List UInt8) (s : PS) : (opS T x s).op = s.op + 1 := by
 unfold opS
 dsimp only
 rw [ta_op]
 split
 ·rw [fa_op]
 ·rfl
theorem cl_op (x : List UInt8) (s : PS) : (clS T x s).op = s.op - 1 := by
 unfold clS
 dsimp only
 rw [ta_op]
theorem na_op (s : PS) : (naS T s).2.op = s.op := by
 unfold naS
 split
 ·rfl
 ·exact fa_op _ _
theorem nu_op (s : PS) : (nuS T s).2.op = s.op := by
 unfold nuS
 split
 ·rfl
 ·exact fa_op _ _
theorem ad_op (s : PS) : s.ad.op = s.op := rfl
theorem Pa.op {n : Nat} {k : PT} {s : PS} {r : PR} {s' : PS} (h : Pa T n k s r s') : s'.op = s.op := by
 induction h using Pa_i with
 | ex n m s a s1 r s' h1 h2 i1 i2 => rw [i2, i1]
 | lpd n m o s h1 => rfl
 | lps n m o s h1 h2 => rfl
 | lpm n m o s x a s1 r s' h1 h2 h3 h4 h5 i4 i5 => rw [i5, i4, ad_op]
 | oun n k hk s a s' h1 h2 h3 i3 => show s'.op - 1 = s.op; rw [i3, on_op]; omega
 | oud n k hk s h1 h2 => show (opS T _ s).op - 1 = s.op; rw [on_op]; omega
 | prd n x y s h1 => rw [cl_op, on_op]; omega
 | pre n x y s a s' h1 h2 i2 => rw [cl_op, i2, on_op]; omega
 | opa n s r s' h1 h2 i2 => exact i2
 | oin n s h1 => rw [cl_op, on_op, ad_op]; omega
 | onu n s h1 h2 => rfl
 | oix n s a s' h1 h2 h3 i3 => rw [i3, na_op]
 | oca n s r s' h1 h2 h3 h4 i4 => rw [i4, na_op]
 | ova n s h1 h2 h3 => exact na_op s
 | arg n x s a k s' h1 i1 => rw [cl_op, i1, on_op]; omega
 | ald n k o s h1 => rfl
 | al0 n k o s h1 h0 h2 => rfl
 | ale n k o s a s' h1 h2 h3 h4 i3 => exact i3
 | alm n k o s a s1 r s' h1 h2 h3 h4 h5 i3 i5 => rw [i5, ad_op, i3]
 | blk n s a s' h1 i1 => rw [cl_op, i1, on_op]; omega
 | bsd n o s h1 => rfl
 | bsm n o s a s1 r s' h1 h2 h3 h4 i3 i4 => rw [i4, i3]
 | sgd n t s h1 => rw [ta_op, ta_op]
 | sge n t s a s' h1 h2 i2 => rw [ta_op, i2, ta_op]
 | sin n s r s' h1 h2 i2 => rw [i2, na_op, ad_op]
 | sif n s a s1 b s2 h1 h2 h3 h4 i2 i3 => rw [i3, i2, ad_op]
 | sel n s a s1 b s2 c s' h1 h2 h3 h4 h5 i2 i3 i5 => rw [i5, ad_op, i3, i2, ad_op]
 | swh n s a s1 b s2 h1 h2 h3 i2 i3 => rw [i3, i2, ad_op]
 | sre n s a s' h1 h2 i2 => rw [ta_op, i2, ad_op]
 | sou n s a s' h1 h2 i2 => rw [ta_op, i2, ad_op]
 | sst n s a s1 r s' h1 h2 h3 h4 i3 i4 => rw [i4, i3, na_op]
 | sca n s a s' h1 h2 h3 h4 i4 => rw [ta_op, i4, na_op]
 | sse n s r s' h1 h2 h3 h4 i4 => rw [i4, na_op]
 | pld n o s h1 => rfl
 | ple n o s h1 h2 h3 => rw [na_op, ta_op]
 | plm n o s r s' h1 h2 h3 h4 i4 => rw [i4, ad_op, na_op, ta_op]
def PT.acc : PT → Nat
 | .inr (.inl (_, q)) => q.length
 | .inr (.inr (.inr (.inr (.inr (.inl (_, q)))))) => q.length
 | .inr (.inr (.inr (.inr (.inr (.inr (.inr (.inl q))))))) => szS q
 | .inr (.inr (.inr (.inr (.inr (.inr (.inr (.inr (.inr (.inr q))))))))) => q.length
 | _ => 0
theorem Pa.acc {n : Nat} {k : PT} {s : PS} {r : PR} {s' : PS} (h : Pa T n k s r s') : k.acc ≤ r.sz := by
 induction h using Pa_i with
 | lpd n m o s h1 => exact Nat.le_refl _
 | lps n m o s h1 h2 => exact Nat.le_refl _
 | lpm n m o s x a s1 r s' h1 h2 h3 h4 h5 i4 i5 => simp only [PT.acc, List.length_append, List.length_singleton] at i5 ⊢; omega
 | ald n k o s h1 => exact Nat.le_refl _
 | al0 n k o s h1 h0 h2 => exact Nat.le_refl _
 | ale n k o s a s' h1 h2 h3 h4 i3 => simp only [PT.acc, PR.sz, List.length_append]; omega
 | alm n k o s a s1 r s' h1 h2 h3 h4 h5 i3 i5 => simp only [PT.acc, List.length_append] at i5 ⊢; omega
 | bsd n o s h1 => exact Nat.le_refl _
 | bsm n o s a s1 r s' h1 h2 h3 h4 i3 i4 => simp only [PT.acc, szS_app] at i4 ⊢; omega
 | pld n o s h1 => exact Nat.le_refl _
 | ple n o s h1 h2 h3 => simp only [PT.acc, PR.sz, List.length_append]; omega
 | plm n o s r s' h1 h2 h3 h4 i4 => simp only [PT.acc, List.length_append] at i4 ⊢; omega
 | _ => exact Nat.zero_le _
end
end
section
open Go.RowKit
theorem PSt.adv {G : GT} {w : World} {s : PS} (h : PSt G w s) (hlt : s.i < G.K) : (PSt G (w.setCell ⟨G.P, 1, none⟩ (.int .i64 ((s.i : Int) + 1))) s.ad ∧ Tcs (fun k => k = G.P) w (w.setCell ⟨G.P, 1, none⟩ (.int .i64 ((s.i : Int) + 1)))) ∧ w.cell? ⟨G.P, 1, none⟩ = some (.int .i64 (s.i : Int)) ∧ w.frozen? ⟨G.P, 1, none⟩ = false ∧ (s.i : Int) ≤ 1000000 := by
 have e : (.int .i64 ((s.i : Int) + 1) : Value) = .int .i64 ((s.i + 1 : Nat) : Int) := by congr 1
 rw [e]
 exact ⟨h.put (s' := s.ad) 1 _ rfl (by show s.i + 1 ≤ G.K; omega) h.ob, (h.box 1 _ rfl).1, (h.box 1 _ rfl).2, by have := h.kk; omega⟩
theorem kd_lt {G : GT} (hL : Las G.T G.K) {s : PS} (h : s.i ≤ G.K) (hk : (G.T s.i).kind ≤ 3) : s.i < G.K := by
 by_cases e : s.i = G.K
 ·rw [e] at hk; have := hL.at4; omega
 ·omega
set_option maxRecDepth 100000 in
set_option maxHeartbeats 1000000 in
theorem name0_any {G : GT} (hL : Las G.T G.K) {w : World} {s : PS} (h : PSt G w s) : Calls Tryz.prog 50 #[.pointer (some ⟨G.P, 0, none⟩)] w fun e w' => e = .returned (.string (naS G.T s).1) ∧ PSt G w' (naS G.T s).2 ∧ Tcs (fun k => k = G.P) w w' := by
 have HT := hide (tok0_any h)
 have H := hide h
 obtain ⟨x9, s9, hn9⟩ : ∃ x9 s9, naS G.T s = (x9, s9) := ⟨_, _, rfl⟩
 rw [hn9]
 dsimp only
 have HN9 := hide hn9
 have HKl : Hid ((G.T s.i).kind = 1 → s.i < G.K) := fun e => kd_lt hL h.wf (by omega)
 unfold toV at HT
 obtain ⟨tk, htk⟩ : ∃ tk, tk = (G.T s.i).kind := ⟨_, rfl⟩
 obtain ⟨tt, htt⟩ : ∃ tt, tt = (G.T s.i).text := ⟨_, rfl⟩
 rw [← htk, ← htt] at HT
 have HTk := hide htk
 have HTt := hide htt
 generalize (G.T s.i).num = tn at *
 generalize ((G.T s.i).pl : Int) = tp at *
 have HAf : Hid (∀ w2, Below w.heap.size w w2 → (FrC (w2.alloc (.cells #[.int .i64 tk, .string tt, .int .i64 tn, .int .i64 tp] 55)) w2.heap.size [.int .i64 tk, .string tt, .int .i64 tn, .int .i64 tp]) ∧ PSt G (w2.alloc (.cells #[.int .i64 tk, .string tt, .int .i64 tn, .int .i64 tp] 55)) s ∧ Below w.heap.size w (w2.alloc (.cells #[.int .i64 tk, .string tt, .int .i64 tn, .int .i64 tp] 55))) := fun w2 hb => ⟨box_fr w2 _ _ (by show 4 ≤ 1000; omega), (h.below hb).below ((Below.refl _ _).alloc (Nat.le_refl _) _), hb.alloc hb.size _⟩
 clear h hL hn9 htk htt
 by_cases hy : s.er = 0 ∧ tk = 1 ∧ resB tt = false
 ·obtain ⟨h0, h1, h2⟩ := hy
  have e9 : (x9, s9) = (tt, s.ad) := by
   rw [← HN9.out]
   unfold naS nmB
   rw [← HTk.out, ← HTt.out, h0, h1, h2]
   simp
  simp only [Prod.mk.injEq] at e9
  obtain ⟨rfl, rfl⟩ := e9
  have hlt := HKl.out (by rw [← HTk.out]; exact h1)
  subst h1
  clear HN9 HKl HTk HTt
  go_enter Tryz.func50, Tryz.ntmps50
  go_wp2_with fail
  refine HT.out.mono ?_
  rintro e w2 ⟨rfl, hb2⟩
  obtain ⟨hx3, h3, hb3⟩ := HAf.out w2 hb2
  obtain ⟨W3, hW3⟩ : ∃ W3, W3 = w2.alloc (.cells #[.int .i64 1, .string x9, .int .i64 tn, .int .i64 tp] 55) := ⟨_, rfl⟩
  obtain ⟨B, hB⟩ : ∃ B, B = w2.heap.size := ⟨_, rfl⟩
  rw [← hW3, ← hB] at hx3
  rw [← hW3] at h3 hb3
  have hPB : G.P < B := by rw [hB]; exact (H.out.below hb2).lt.1
  have p3 : W3.cell? ⟨G.P, 3, none⟩ = some (.int .i64 0) := by rw [← h0]; exact (h3.box 3 _ rfl).1
  have c0 := (hx3 0 _ rfl).1
  have c1 := (hx3 1 _ rfl).1
  obtain ⟨h4, q1, f1, hi⟩ := h3.adv hlt
  have nB : ¬ G.P = B := by omega
  have nB' : ¬ B = G.P := by omega
  have HF := hide (And.intro h4.1 ((hb3.tcs (S := fun k => k = G.P)).trans h4.2))
  have HW3 := hide hW3
  have HB := hide hB
  clear h3 h4 hx3 hb3 hb2 hW3 HT H HAf hB
  go_upto_region 2 with fail
  rw [← HW3.out, ← HB.out]
  go_wp2_with (go_at_call 73; refine (res_any _ _).mono ?_; rintro e w' ⟨rfl, rfl⟩; rw [h2])
  go_ret
  exact ⟨rfl, HF.out.1, HF.out.2⟩
 ·have e9 : (x9, s9) = (tx [], faS G.T 3 s) := by
   rw [← HN9.out]
   unfold naS nmB
   rw [← HTk.out, ← HTt.out]
   rw [if_neg]
   simp only [Bool.and_eq_true, decide_eq_true_eq, Bool.not_eq_true']
   exact fun h => hy ⟨h.1.1, h.1.2, h.2⟩
  simp only [Prod.mk.injEq] at e9
  obtain ⟨rfl, rfl⟩ := e9
  have hcs : s.er ≠ 0 ∨ (s.er = 0 ∧ tk ≠ 1) ∨ (s.er = 0 ∧ tk = 1 ∧ resB tt = true) := by
   by_cases h0 : s.er = 0
   ·by_cases h1 : tk = 1
    ·cases h2 : resB tt with
     | false => exact absurd ⟨h0, h1, h2⟩ hy
     | true => exact .inr (.inr ⟨h0, h1, rfl⟩)
    ·exact .inr (.inl ⟨h0, h1⟩)
   ·exact .inl h0
  clear HN9 HKl HTk HTt hy
  have HEnd : Hid (∀ W, Below w.heap.size w W → Calls Tryz.prog 82 #[.pointer (some ⟨G.P, 0, none⟩), .int .i64 3] W fun e w' => e = .returned (.tuple #[]) ∧ PSt G w' (faS G.T 3 s) ∧ Tcs (fun k => k = G.P) W w') := fun W hW => fail_any (H.out.below hW) 3
  have HBk : Hid (∀ (v : Int) W, PSt G W s → v = s.er → W.cell? ⟨G.P, 3, none⟩ = some (.int .i64 v)) := fun v W hW e => by rw [e]; exact (hW.box 3 _ rfl).1
  rcases hcs with h0 | ⟨h0, h1⟩ | ⟨h0, h1, h2⟩
  ·have e0 : (s.er != 0) = true := by simpa using h0
   go_enter Tryz.func50, Tryz.ntmps50
   go_wp2_with fail
   refine HT.out.mono ?_
   rintro e w2 ⟨rfl, hb2⟩
   obtain ⟨hx3, h3, hb3⟩ := HAf.out w2 hb2
   obtain ⟨W3, hW3⟩ : ∃ W3, W3 = w2.alloc (.cells #[.int .i64 tk, .string tt, .int .i64 tn, .int .i64 tp] 55) := ⟨_, rfl⟩
   rw [← hW3] at h3 hb3
   have p3 := HBk.out s.er W3 h3 rfl
   have HE := hide (HEnd.out W3 hb3)
   have Hb3 := hide hb3
   have HW3 := hide hW3
   clear h3 hx3 hb3 hb2 hW3 HT H HAf HEnd HBk
   go_upto_region 2 with fail
   rw [← HW3.out]
   go_wp2_with fail
   refine HE.out.mono ?_
   rintro e w4 ⟨rfl, h4, t4⟩
   have HF := hide (And.intro h4 ((Hb3.out.tcs (S := fun k => k = G.P)).trans t4))
   clear h4 t4 HE p3
   go_wp2_with fail
   go_ret
   exact ⟨rfl, HF.out.1, HF.out.2⟩
  ·have e1 : (tk != 1) = true := by simpa using h1
   go_enter Tryz.func50, Tryz.ntmps50
   go_wp2_with fail
   refine HT.out.mono ?_
   rintro e w2 ⟨rfl, hb2⟩
   obtain ⟨hx3, h3, hb3⟩ := HAf.out w2 hb2
   obtain ⟨W3, hW3⟩ : ∃ W3, W3 = w2.alloc (.cells #[.int .i64 tk, .string tt, .int .i64 tn, .int .i64 tp] 55) := ⟨_, rfl⟩
   obtain ⟨B, hB⟩ : ∃ B, B = w2.heap.size := ⟨_, rfl⟩
   rw [← hW3] at h3 hb3
   rw [← hW3, ← hB] at hx3
   have p3 := HBk.out 0 W3 h3 h0.symm
   have c0 := (hx3 0 _ rfl).1
   have HE := hide (HEnd.out W3 hb3)
   have Hb3 := hide hb3
   have HW3 := hide hW3
   have HB := hide hB
   clear h3 hx3 hb3 hb2 hW3 HT H HAf HEnd HBk hB
   go_upto_region 2 with fail
   rw [← HW3.out, ← HB.out]
   go_wp2_with fail
   refine HE.out.mono ?_
   rintro e w4 ⟨rfl, h4, t4⟩
   have HF := hide (And.intro h4 ((Hb3.out.tcs (S := fun k => k = G.P)).trans t4))
   clear h4 t4 HE p3 c0
   go_wp2_with fail
   go_ret
   exact ⟨rfl, HF.out.1, HF.out.2⟩
  ·subst h1
   go_enter Tryz.func50, Tryz.ntmps50
   go_wp2_with fail
   refine HT.out.mono ?_
   rintro e w2 ⟨rfl, hb2⟩
   obtain ⟨hx3, h3, hb3⟩ := HAf.out w2 hb2
   obtain ⟨W3, hW3⟩ : ∃ W3, W3 = w2.alloc (.cells #[.int .i64 1, .string tt, .int .i64 tn, .int .i64 tp] 55) := ⟨_, rfl⟩
   obtain ⟨B, hB⟩ : ∃ B, B = w2.heap.size := ⟨_, rfl⟩
   rw [← hW3] at h3 hb3
   rw [← hW3, ← hB] at hx3
   have p3 := HBk.out 0 W3 h3 h0.symm
   have c0 := (hx3 0 _ rfl).1
   have c1 := (hx3 1 _ rfl).1
   have HE := hide (HEnd.out W3 hb3)
   have Hb3 := hide hb3
   have HW3 := hide hW3
   have HB := hide hB
   clear h3 hx3 hb3 hb2 hW3 HT H HAf HEnd HBk hB
   go_upto_region 2 with fail
   rw [← HW3.out, ← HB.out]
   go_wp2_with (go_at_call 73; refine (res_any _ _).mono ?_; rintro e w' ⟨rfl, rfl⟩; rw [h2])
   refine HE.out.mono ?_
   rintro e w4 ⟨rfl, h4, t4⟩
   have HF := hide (And.intro h4 ((Hb3.out.tcs (S := fun k => k = G.P)).trans t4))
   clear h4 t4 HE p3 c0 c1
   go_wp2_with fail
   go_ret
   exact ⟨rfl, HF.out.1, HF.out.2⟩
end
section
open Go.RowKit
set_option maxRecDepth 100000 in
set_option maxHeartbeats 1000000 in
theorem num0_any {G : GT} (hL : Las G.T G.K) {w : World} {s : PS} (h : PSt G w s) : Calls Tryz.prog 55 #[.pointer (some ⟨G.P, 0, none⟩)] w fun e w' => e = .returned (.int .i64 (nuS G.T s).1) ∧ PSt G w' (nuS G.T s).2 ∧ Tcs (fun k => k = G.P) w w' := by
 have HT := hide (tok0_any h)
 have H := hide h
 obtain ⟨x9, s9, hn9⟩ : ∃ x9 s9, nuS G.T s = (x9, s9) := ⟨_, _, rfl⟩
 rw [hn9]
 dsimp only
 have HN9 := hide hn9
 have HKl : Hid ((G.T s.i).kind = 2 → s.i < G.K) := fun e => kd_lt hL h.wf (by omega)
 unfold toV at HT
 obtain ⟨tk, htk⟩ : ∃ tk, tk = (G.T s.i).kind := ⟨_, rfl⟩
 obtain ⟨tn, htn⟩ : ∃ tn, tn = (G.T s.i).num := ⟨_, rfl⟩
 rw [← htk, ← htn] at HT
 have HTk := hide htk
 have HTn := hide htn
 generalize (G.T s.i).text = tt at *
 generalize ((G.T s.i).pl : Int) = tp at *
 have HAf : Hid (∀ w2, Below w.heap.size w w2 → (FrC (w2.alloc (.cells #[.int .i64 tk, .string tt, .int .i64 tn, .int .i64 tp] 55)) w2.heap.size [.int .i64 tk, .string tt, .int .i64 tn, .int .i64 tp]) ∧ PSt G (w2.alloc (.cells #[.int .i64 tk, .string tt, .int .i64 tn, .int .i64 tp] 55)) s ∧ Below w.heap.size w (w2.alloc (.cells #[.int .i64 tk, .string tt, .int .i64 tn, .int .i64 tp] 55))) := fun w2 hb => ⟨box_fr w2 _ _ (by show 4 ≤ 1000; omega), (h.below hb).below ((Below.refl _ _).alloc (Nat.le_refl _) _), hb.alloc hb.size _⟩
 clear h hL hn9 htk htn
 by_cases hy : s.er = 0 ∧ tk = 2
 ·obtain ⟨h0, h1⟩ := hy
  have e9 : (x9, s9) = (tn, s.ad) := by
   rw [← HN9.out]
   unfold nuS
   rw [← HTk.out, ← HTn.out, if_pos ⟨h0, h1⟩]
  simp only [Prod.mk.injEq] at e9
  obtain ⟨rfl, rfl⟩ := e9
  have hlt := HKl.out (by rw [← HTk.out]; exact h1)
  subst h1
  clear HN9 HKl HTk HTn
  go_enter Tryz.func55, Tryz.ntmps55
  go_wp2_with fail
  refine HT.out.mono ?_
  rintro e w2 ⟨rfl, hb2⟩
  obtain ⟨hx3, h3, hb3⟩ := HAf.out w2 hb2
  obtain ⟨W3, hW3⟩ : ∃ W3, W3 = w2.alloc (.cells #[.int .i64 2, .string tt, .int .i64 x9, .int .i64 tp] 55) := ⟨_, rfl⟩
  obtain ⟨B, hB⟩ : ∃ B, B = w2.heap.size := ⟨_, rfl⟩
  rw [← hW3, ← hB] at hx3
  rw [← hW3] at h3 hb3
  have hPB : G.P < B := by rw [hB]; exact (H.out.below hb2).lt.1
  have p3 : W3.cell? ⟨G.P, 3, none⟩ = some (.int .i64 0) := by rw [← h0]; exact (h3.box 3 _ rfl).1
  have c0 := (hx3 0 _ rfl).1
  have c2 := (hx3 2 _ rfl).1
  obtain ⟨h4, q1, f1, hi⟩ := h3.adv hlt
  have nB : ¬ G.P = B := by omega
  have nB' : ¬ B = G.P := by omega
  have HF := hide (And.intro h4.1 ((hb3.tcs (S := fun k => k = G.P)).trans h4.2))
  have HW3 := hide hW3
  have HB := hide hB
  clear h3 h4 hx3 hb3 hb2 hW3 HT H HAf hB
  go_upto_region 2 with fail
  rw [← HW3.out, ← HB.out]
  go_wp2_with fail
  go_ret
  exact ⟨rfl, HF.out.1, HF.out.2⟩
 ·have e9 : (x9, s9) = (0, faS G.T 3 s) := by
   rw [← HN9.out]
   unfold nuS
   rw [← HTk.out, ← HTn.out, if_neg hy]
  simp only [Prod.mk.injEq] at e9
  obtain ⟨rfl, rfl⟩ := e9
  have hcs : s.er ≠ 0 ∨ (s.er = 0 ∧ tk ≠ 2) := by
   by_cases h0 : s.er = 0
   ·exact .inr ⟨h0, fun h => hy ⟨h0, h⟩⟩
   ·exact .inl h0
  clear HN9 HKl HTk HTn hy
  have HEnd : Hid (∀ W, Below w.heap.size w W → Calls Tryz.prog 82 #[.pointer (some ⟨G.P, 0, none⟩), .int .i64 3] W fun e w' => e = .returned (.tuple #[]) ∧ PSt G w' (faS G.T 3 s) ∧ Tcs (fun k => k = G.P) W w') := fun W hW => fail_any (H.out.below hW) 3
  have HBk : Hid (∀ (v : Int) W, PSt G W s → v = s.er → W.cell? ⟨G.P, 3, none⟩ = some (.int .i64 v)) := fun v W hW e => by rw [e]; exact (hW.box 3 _ rfl).1
  rcases hcs with h0 | ⟨h0, h1⟩
  ·have e0 : (s.er != 0) = true := by simpa using h0
   go_enter Tryz.func55, Tryz.ntmps55
   go_wp2_with fail
   refine HT.out.mono ?_
   rintro e w2 ⟨rfl, hb2⟩
   obtain ⟨hx3, h3, hb3⟩ := HAf.out w2 hb2
   obtain ⟨W3, hW3⟩ : ∃ W3, W3 = w2.alloc (.cells #[.int .i64 tk, .string tt, .int .i64 tn, .int .i64 tp] 55) := ⟨_, rfl⟩
   rw [← hW3] at h3 hb3
   have p3 := HBk.out s.er W3 h3 rfl
   have HE := hide (HEnd.out W3 hb3)
   have Hb3 := hide hb3
   have HW3 := hide hW3
   clear h3 hx3 hb3 hb2 hW3 HT H HAf HEnd HBk
   go_upto_region 2 with fail
   rw [← HW3.out]
   go_wp2_with fail
   refine HE.out.mono ?_
   rintro e w4 ⟨rfl, h4, t4⟩
   have HF := hide (And.intro h4 ((Hb3.out.tcs (S := fun k => k = G.P)).trans t4))
   clear h4 t4 HE p3
   go_wp2_with fail
   go_ret
   exact ⟨rfl, HF.out.1, HF.out.2⟩
  ·have e1 : (tk != 2) = true := by simpa using h1
   go_enter Tryz.func55, Tryz.ntmps55
   go_wp2_with fail
   refine HT.out.mono ?_
   rintro e w2 ⟨rfl, hb2⟩
   obtain ⟨hx3, h3, hb3⟩ := HAf.out w2 hb2
   obtain ⟨W3, hW3⟩ : ∃ W3, W3 = w2.alloc (.cells #[.int .i64 tk, .string tt, .int .i64 tn, .int .i64 tp] 55) := ⟨_, rfl⟩
   obtain ⟨B, hB⟩ : ∃ B, B = w2.heap.size := ⟨_, rfl⟩
   rw [← hW3] at h3 hb3
   rw [← hW3, ← hB] at hx3
   have p3 := HBk.out 0 W3 h3 h0.symm
   have c0 := (hx3 0 _ rfl).1
   have HE := hide (HEnd.out W3 hb3)
   have Hb3 := hide hb3
   have HW3 := hide hW3
   have HB := hide hB
   clear h3 hx3 hb3 hb2 hW3 HT H HAf HEnd HBk hB
   go_upto_region 2 with fail
   rw [← HW3.out, ← HB.out]
   go_wp2_with fail
   refine HE.out.mono ?_
   rintro e w4 ⟨rfl, h4, t4⟩
   have HF := hide (And.intro h4 ((Hb3.out.tcs (S := fun k => k = G.P)).trans t4))
   clear h4 t4 HE p3 c0
   go_wp2_with fail
   go_ret
   exact ⟨rfl, HF.out.1, HF.out.2⟩
end
end Go.Proofs.YtlamjfhhefcohaaGreatDoor
