import Derived.Test.YtlamjfhhefcohaaGreatDoorM04
import Derived.Test.YtlamjfhhefcohaaGreatDoorM20
import Derived.Deep.RegionHeld
namespace Go.Proofs.YtlamjfhhefcohaaGreatDoor
set_option linter.unusedVariables false
set_option linter.unusedSimpArgs false
set_option maxRecDepth 100000
set_option maxHeartbeats 16000000
section
open Go.RowKit
def ndV (n : Nd) : Value := .agg #[.int .i64 n.kind, .int .i64 n.val, .string n.name]
theorem node_end {w X : World} {M : Nat} {u0 u1 u2 : Value} (hm : FrC X M [u0, u1, u2]) (hb : Below w.heap.size w X) (hM : w.heap.size ≤ M) (n : Nd) {X' : World} (hX : X' = (((X.setCell ⟨M, 0, none⟩ (.int .i64 n.kind)).setCell ⟨M, 1, none⟩ (.int .i64 n.val)).setCell ⟨M, 2, none⟩ (.string n.name)).drew) :
  (X'.cell? ⟨M, 0, none⟩ = some (.int .i64 n.kind) ∧ X'.cell? ⟨M, 1, none⟩ = some (.int .i64 n.val) ∧ X'.cell? ⟨M, 2, none⟩ = some (.string n.name)) ∧ Below w.heap.size w X' := by
 subst hX
 have h := (((hm.set 0 (.int .i64 n.kind)).set 1 (.int .i64 n.val)).set 2 (.string n.name)).below (Below.refl _ _).drew
 exact ⟨⟨(h 0 _ rfl).1, (h 1 _ rfl).1, (h 2 _ rfl).1⟩, (((hb.setCell (p := ⟨M, 0, none⟩) hM _).setCell (p := ⟨M, 1, none⟩) hM _).setCell (p := ⟨M, 2, none⟩) hM _).drew⟩
theorem node_end2 {w X : World} {M : Nat} {u0 u1 u2 : Value} (hm : FrC X M [u0, u1, u2]) (hb : Below w.heap.size w X) (hM : w.heap.size ≤ M) (n : Nd) {X' : World} (hX : X' = ((X.setCell ⟨M, 0, none⟩ (.int .i64 n.kind)).setCell ⟨M, 1, none⟩ (.int .i64 n.val)).setCell ⟨M, 2, none⟩ (.string n.name)) :
  (X'.cell? ⟨M, 0, none⟩ = some (.int .i64 n.kind) ∧ X'.cell? ⟨M, 1, none⟩ = some (.int .i64 n.val) ∧ X'.cell? ⟨M, 2, none⟩ = some (.string n.name)) ∧ Below w.heap.size w X' := by
 subst hX
 have h := ((hm.set 0 (.int .i64 n.kind)).set 1 (.int .i64 n.val)).set 2 (.string n.name)
 exact ⟨⟨(h 0 _ rfl).1, (h 1 _ rfl).1, (h 2 _ rfl).1⟩, ((hb.setCell (p := ⟨M, 0, none⟩) hM _).setCell (p := ⟨M, 1, none⟩) hM _).setCell (p := ⟨M, 2, none⟩) hM _⟩
theorem if_two {T : Nat → To} {s : PS} (h1 : isS T [124, 124] s = false) (h2 : isS T [38, 38] s = false) : ifS T s = (opsL.drop 2).find? (fun o => isS T o.1 s) := by
 unfold ifS opsL
 simp only [List.find?_cons, h1, h2, List.drop_succ_cons, List.drop_zero]
theorem ops_at (k : Nat) (hk : k < 16) : (opsL.drop 2)[k]'(by show k < 16; exact hk) = (opTab.getD k [], ⟨7, (k : Int), tx []⟩, strN ⟨7, (k : Int), tx []⟩) := by
 have : k = 0 ∨ k = 1 ∨ k = 2 ∨ k = 3 ∨ k = 4 ∨ k = 5 ∨ k = 6 ∨ k = 7 ∨ k = 8 ∨ k = 9 ∨ k = 10 ∨ k = 11 ∨ k = 12 ∨ k = 13 ∨ k = 14 ∨ k = 15 := by omega
 rcases this with rfl | rfl | rfl | rfl | rfl | rfl | rfl | rfl | rfl | rfl | rfl | rfl | rfl | rfl | rfl | rfl <;> rfl
theorem find_at {α : Type} {p : α → Bool} {l : List α} {k : Nat} (hk : k < l.length) (h : ∀ j (hj : j < k), p (l[j]'(by omega)) = false) (hp : p l[k] = true) : l.find? p = some l[k] := by
 rw [List.find?_eq_some_iff_getElem]
 exact ⟨hp, k, hk, rfl, fun j hj => by rw [h j hj]; rfl⟩
theorem find_no {α : Type} {p : α → Bool} {l : List α} (h : ∀ j (hj : j < l.length), p l[j] = false) : l.find? p = none := by
 rw [List.find?_eq_none]
 intro x hx
 obtain ⟨j, hj, rfl⟩ := List.getElem_of_mem hx
 rw [h j hj]
 simp
def InA (T : Nat → To) (s : PS) (least : Int) (e : Ending) : Prop := ∃ (b : Bool) (n : Nd), e = .returned (.tuple #[.bool b, ndV n]) ∧ (∀ x, ifS T s = some x → n = x.2.1 ∧ b = decide (least ≤ x.2.2)) ∧ (ifS T s = none → b = false)
theorem in_yes {T : Nat → To} {s : PS} {least : Int} {x : List UInt8 × Nd × Int} (h : ifS T s = some x) : InA T s least (.returned (.tuple #[.bool (decide (least ≤ x.2.2)), ndV x.2.1])) := ⟨_, _, rfl, fun y hy => by rw [h] at hy; cases hy; exact ⟨rfl, rfl⟩, fun hn => by rw [h] at hn; cases hn⟩
theorem nd7 (k : Nat) (hk : k < 16) : nodeB ⟨7, (k : Int), tx []⟩ = true := by
 unfold nodeB
 simp only [show ¬ ((7 : Int) = 1) by decide, show ¬ ((7 : Int) = 2 ∨ (7 : Int) = 3) by decide, show ¬ ((7 : Int) = 4) by decide, show ¬ ((7 : Int) = 6) by decide, if_false, if_true, Bool.and_eq_true, decide_eq_true_eq]
 exact ⟨by omega, by simp [tx, ByteArray.toList_eq]⟩
theorem in_no {T : Nat → To} {s : PS} {least : Int} (n : Nd) (h : ifS T s = none) : InA T s least (.returned (.tuple #[.bool false, ndV n])) := ⟨_, _, rfl, fun y hy => (by rw [h] at hy; cases hy), fun _ => rfl⟩
set_option maxRecDepth 100000 in
set_option maxHeartbeats 2000000 in
theorem infix_any {G : GT} {w : World} {s : PS} (h : PSt G w s) (least : Int) : Calls Tryz.prog 153 #[.pointer (some ⟨G.P, 0, none⟩), .int .i64 least] w fun e w' => InA G.T s least e ∧ Below w.heap.size w w' := by
 obtain ⟨W1, hW1⟩ : ∃ W1, W1 = (w.alloc (.cells #[.int .i64 0, .int .i64 0, .string ⟨#[]⟩] 48)).alloc (.cells #[.int .i64 9, .int .i64 0, .string ⟨#[]⟩] 48) := ⟨_, rfl⟩
 obtain ⟨B, hB⟩ : ∃ B, B = w.heap.size := ⟨_, rfl⟩
 have hbA : ∀ o, Below w.heap.size w (w.alloc o) := fun o => (Below.refl _ _).alloc (Nat.le_refl _) _
 have hb1 : Below w.heap.size w W1 := by rw [hW1]; exact (hbA _).alloc (hbA _).size _
 have hx1 : FrC W1 B [.int .i64 0, .int .i64 0, .string ⟨#[]⟩] := by rw [hW1, hB]; exact (box_fr w #[.int .i64 0, .int .i64 0, .string ⟨#[]⟩] 48 (by show 3 ≤ 1000; omega)).below ((Below.refl _ _).alloc (Nat.le_refl _) _)
 have hm1 : FrC W1 (B + 1) [.int .i64 9, .int .i64 0, .string ⟨#[]⟩] := by
  rw [hW1, hB]
  have := box_fr (w.alloc (.cells #[.int .i64 0, .int .i64 0, .string ⟨#[]⟩] 48)) #[.int .i64 9, .int .i64 0, .string ⟨#[]⟩] 48 (by show 3 ≤ 1000; omega)
  rw [World.size_alloc] at this
  exact this
 have HI1 := hide (is_any (h.below hb1) [124, 124])
 have H := hide h
 have HX1 := hide hx1
 have HM1 := hide hm1
 have Hb1 := hide hb1
 have HW1 := hide hW1
 have HB := hide hB
 have HBw : Hid (w.heap.size ≤ B) := Nat.le_of_eq hB.symm
 have hPB : G.P < B := by rw [hB]; exact h.lt.1
 clear h hW1 hB hbA hb1 hx1 hm1
 cases h1 : isS G.T [124, 124] s with
 | true =>
  rw [h1] at HI1
  have hif : ifS G.T s = some ([124, 124], ⟨9, 0, tx []⟩, 1) := find_at (p := fun o : List UInt8 × Nd × Int => isS G.T o.1 s) (l := opsL) (k := 0) (by decide) (fun j hj => by omega) h1
  have HIn := hide (in_yes (least := least) hif)
  clear hif h1
  go_enter Tryz.func153, Tryz.ntmps153
  go_upto_region 2 with fail
  rw [← HW1.out, ← HB.out]
  go_wp2_with fail
  refine HI1.out.mono ?_
  rintro e w2 ⟨rfl, hb2⟩
  have hx2 := HX1.out.below hb2
  have hm2 := HM1.out.below hb2
  obtain ⟨y0, z0⟩ := hx2 0 _ rfl
  obtain ⟨y1, z1⟩ := hx2 1 _ rfl
  obtain ⟨y2, z2⟩ := hx2 2 _ rfl
  have m0 := (hm2 0 _ rfl).1
  have m1 := (hm2 1 _ rfl).1
  have m2 := (hm2 2 _ rfl).1
  have HX2 := hide hx2
  have Hb2 := hide (Hb1.out.trans (hb2.mono Hb1.out.size))
  have nB : ¬ B = B + 1 := by omega
  clear hx2 hm2 hb2 HI1
  go_wp2_with fail
  go_region
  go_wp2_with fail
  obtain ⟨X, hX⟩ : ∃ X, X = (((w2.setCell ⟨B, 0, none⟩ (.int .i64 9)).setCell ⟨B, 1, none⟩ (.int .i64 0)).setCell ⟨B, 2, none⟩ (.string ⟨#[]⟩)).drew := ⟨_, rfl⟩
  rw [← hX]
  obtain ⟨⟨t0, t1, t2⟩, hE⟩ := node_end (n := ⟨9, 0, tx []⟩) HX2.out Hb2.out HBw.out hX
  exact bodyPost_ret (v := .tuple #[.bool (decide (least ≤ 1)), .agg #[.int .i64 9, .int .i64 0, .string ⟨#[]⟩]]) (by simp [results, Tryz.results153, go_sem]; first | (rw [t0, t1, t2]; rfl) | simp [t0, t1, t2, tx]) rfl ⟨HIn.out, hE⟩
 | false =>
  rw [h1] at HI1
  cases h2 : isS G.T [38, 38] s with
  | true =>
   have hif : ifS G.T s = some ([38, 38], ⟨8, 0, tx []⟩, 2) := find_at (p := fun o : List UInt8 × Nd × Int => isS G.T o.1 s) (l := opsL) (k := 1) (by decide) (fun j hj => by cases j with | zero => exact h1 | succ j => omega) h2
   have HIn := hide (in_yes (least := least) hif)
   have H2 := hide h2
   clear hif h1 h2
   go_enter Tryz.func153, Tryz.ntmps153
   go_upto_region 2 with fail
   rw [← HW1.out, ← HB.out]
   go_wp2_with fail
   refine HI1.out.mono ?_
   rintro e w2 ⟨rfl, hb2⟩
   have hx2 := HX1.out.below hb2
   have hm2 := HM1.out.below hb2
   have hb02 := Hb1.out.trans (hb2.mono Hb1.out.size)
   obtain ⟨W3, hW3⟩ : ∃ W3, W3 = w2.setCell ⟨B + 1, 0, none⟩ (.int .i64 8) := ⟨_, rfl⟩
   have ht3 : Tcs (fun k => k = B + 1) w2 W3 := by rw [hW3]; exact (Tcs.refl (fun k => k = B + 1) w2).setCell (p := ⟨B + 1, 0, none⟩) rfl _
   have hm3 : FrC W3 (B + 1) [.int .i64 8, .int .i64 0, .string ⟨#[]⟩] := by rw [hW3]; exact hm2.set 0 _
   have hl2 : B < w2.heap.size := World.block_lt_of_cell? _ _ (hx2 0 _ rfl).1
   have hx3 := hx2.tcs hl2 ht3 (fun e => by omega)
   have hb3 := ht3.below hb02 hb02.size (fun k hk => by have := HBw.out; omega)
   have h3 := (H.out.below hb02).tcs ht3 (fun e => by omega) (fun e => by have := (H.out.lt).2; have := HB.out; omega)
   have HI3 := hide (is_any h3 [38, 38])
   rw [H2.out] at HI3
   have c0 := (hm2 0 _ rfl).1
   have f0 := (hm2 0 _ rfl).2
   have HX3 := hide hx3
   have HM3 := hide hm3
   have Hb3 := hide hb3
   have HW3 := hide hW3
   clear hx2 hm2 hb2 HI1 hb02 hW3 ht3 hm3 hx3 hb3 h3
   go_wp2_with fail
   rw [← HW3.out]
   refine HI3.out.mono ?_
   rintro e w4 ⟨rfl, hb4⟩
   have hx4 := HX3.out.below hb4
   have hm4 := HM3.out.below hb4
   obtain ⟨y0, z0⟩ := hx4 0 _ rfl
   obtain ⟨y1, z1⟩ := hx4 1 _ rfl
   obtain ⟨y2, z2⟩ := hx4 2 _ rfl
   have m0 := (hm4 0 _ rfl).1
   have m1 := (hm4 1 _ rfl).1
   have m2 := (hm4 2 _ rfl).1
   have HX4 := hide hx4
   have Hb4 := hide (Hb3.out.trans (hb4.mono Hb3.out.size))
   have nB : ¬ B = B + 1 := by omega
   clear hx4 hm4 hb4 HI3 c0 f0
   go_wp2_with fail
   go_region
   go_wp2_with fail
   obtain ⟨X, hX⟩ : ∃ X, X = (((w4.setCell ⟨B, 0, none⟩ (.int .i64 8)).setCell ⟨B, 1, none⟩ (.int .i64 0)).setCell ⟨B, 2, none⟩ (.string ⟨#[]⟩)).drew := ⟨_, rfl⟩
   rw [← hX]
   obtain ⟨⟨t0, t1, t2⟩, hE⟩ := node_end (n := ⟨8, 0, tx []⟩) HX4.out Hb4.out HBw.out hX
   exact bodyPost_ret (v := .tuple #[.bool (decide (least ≤ 2)), .agg #[.int .i64 8, .int .i64 0, .string ⟨#[]⟩]]) (by simp [results, Tryz.results153, go_sem]; first | (rw [t0, t1, t2]; rfl) | simp [t0, t1, t2, tx]) rfl ⟨HIn.out, hE⟩
  | false =>
   have HLo := hide (if_two h1 h2)
   have H2 := hide h2
   clear h1 h2
   go_enter Tryz.func153, Tryz.ntmps153
   go_upto_region 2 with fail
   rw [← HW1.out, ← HB.out]
   go_wp2_with fail
   refine HI1.out.mono ?_
   rintro e w2 ⟨rfl, hb2⟩
   have hx2 := HX1.out.below hb2
   have hm2 := HM1.out.below hb2
   have hb02 := Hb1.out.trans (hb2.mono Hb1.out.size)
   obtain ⟨W3, hW3⟩ : ∃ W3, W3 = w2.setCell ⟨B + 1, 0, none⟩ (.int .i64 8) := ⟨_, rfl⟩
   have ht3 : Tcs (fun k => k = B + 1) w2 W3 := by rw [hW3]; exact (Tcs.refl (fun k => k = B + 1) w2).setCell (p := ⟨B + 1, 0, none⟩) rfl _
   have hm3 : FrC W3 (B + 1) [.int .i64 8, .int .i64 0, .string ⟨#[]⟩] := by rw [hW3]; exact hm2.set 0 _
   have hl2 : B < w2.heap.size := World.block_lt_of_cell? _ _ (hx2 0 _ rfl).1
   have hx3 := hx2.tcs hl2 ht3 (fun e => by omega)
   have hb3 := ht3.below hb02 hb02.size (fun k hk => by have := HBw.out; omega)
   have h3 := (H.out.below hb02).tcs ht3 (fun e => by omega) (fun e => by have := (H.out.lt).2; have := HB.out; omega)
   have HI3 := hide (is_any h3 [38, 38])
   rw [H2.out] at HI3
   have c0 := (hm2 0 _ rfl).1
   have f0 := (hm2 0 _ rfl).2
   have HX3 := hide hx3
   have HM3 := hide hm3
   have Hb3 := hide hb3
   have HW3 := hide hW3
   have HP3 := hide h3
   clear hx2 hm2 hb2 HI1 hb02 hW3 ht3 hm3 hx3 hb3 h3 hl2
   go_wp2_with fail
   rw [← HW3.out]
   refine HI3.out.mono ?_
   rintro e w4 ⟨rfl, hb4⟩
   have HX4 := hide (HX3.out.below hb4)
   have HM4 := hide (HM3.out.below hb4)
   have HP4 := hide (HP3.out.below hb4)
   have Hb4 := hide (Hb3.out.trans (hb4.mono Hb3.out.size))
   clear hb4 HI3 c0 f0 HX3 HM3 HP3 Hb3
   go_wp2_with fail
   refine (ops_any w4).mono ?_
   rintro e w5 ⟨rfl, hb5, hz5, hc5⟩
   obtain ⟨bO, hbO⟩ : ∃ bO, bO = w4.heap.size := ⟨_, rfl⟩
   rw [← hbO]
   rw [← hbO] at hc5 hz5
   have hPbO : G.P < bO ∧ G.bT < bO ∧ B < bO ∧ B + 1 < bO := by
    have := HP4.out.lt
    have hB4 : B < w4.heap.size := World.block_lt_of_cell? _ _ (HX4.out 0 _ rfl).1
    have hM4 : B + 1 < w4.heap.size := World.block_lt_of_cell? _ _ (HM4.out 0 _ rfl).1
    omega
   have HInv : Hid (PSt G w5 s ∧ FrC w5 B [.int .i64 0, .int .i64 0, .string ⟨#[]⟩] ∧ FrC w5 (B + 1) [.int .i64 8, .int .i64 0, .string ⟨#[]⟩] ∧ (∀ m, m < 16 → w5.cell? ⟨bO, m, none⟩ = some (.string (tx (opTab.getD m [])))) ∧ Below w.heap.size w w5 ∧ bO < w5.heap.size) := ⟨HP4.out.below hb5, HX4.out.below hb5, HM4.out.below hb5, hc5, Hb4.out.trans (hb5.mono Hb4.out.size), hz5⟩
   have hbTB : ¬ G.bT = B + 1 := by have := (H.out.lt).2; have := HB.out; omega
   clear hb5 hc5 hz5 hbO HX4 HM4 HP4 Hb4
   go_wp2_with fail
   go_loopw [8] (fun i wr => ∃ (k : Nat) (a b : Int), i = .int .i64 (k : Int) ∧ k ≤ 16 ∧ (∀ j, j < k → isS G.T (opTab.getD j []) s = false) ∧ PSt G wr s ∧ FrC wr B [.int .i64 0, .int .i64 0, .string ⟨#[]⟩] ∧ FrC wr (B + 1) [.int .i64 a, .int .i64 b, .string ⟨#[]⟩] ∧ (∀ m, m < 16 → wr.cell? ⟨bO, m, none⟩ = some (.string (tx (opTab.getD m [])))) ∧ Below w.heap.size w wr ∧ bO < wr.heap.size) (fun i _ => 16 - (RowKit.intOf i).toNat)
   case atStart => exact ⟨0, 8, 0, rfl, by omega, fun j hj => by omega, HInv.out⟩
   case round =>
    clear HInv
    obtain ⟨k, a, b, rfl, hk, hno, hP, hx, hm, hc, hb, hz⟩ := hrel
    have HNo := hide hno
    have HP := hide hP
    have HX := hide hx
    have HCo := hide hc
    have Hb := hide hb
    by_cases hlt : k < 16
    ·have hki : (k : Int) < 16 := by omega
     obtain ⟨y0, z0⟩ := hm 0 _ rfl
     obtain ⟨y1, z1⟩ := hm 1 _ rfl
     obtain ⟨y2, z2⟩ := hm 2 _ rfl
     obtain ⟨W6, hW6⟩ : ∃ W6, W6 = ((wr.setCell ⟨B + 1, 0, none⟩ (.int .i64 7)).setCell ⟨B + 1, 1, none⟩ (.int .i64 (k : Int))).setCell ⟨B + 1, 2, none⟩ (.string ⟨#[]⟩) := ⟨_, rfl⟩
     have ht6 : Tcs (fun k => k = B + 1) wr W6 := by rw [hW6]; exact (((Tcs.refl (fun k => k = B + 1) wr).setCell (p := ⟨B + 1, 0, none⟩) rfl _).setCell (p := ⟨B + 1, 1, none⟩) rfl _).setCell (p := ⟨B + 1, 2, none⟩) rfl _
     have hm6 : FrC W6 (B + 1) [.int .i64 7, .int .i64 (k : Int), .string ⟨#[]⟩] := by rw [hW6]; exact ((hm.set 0 _).set 1 _).set 2 _
     have hP6 := hP.tcs ht6 (fun e => by omega) hbTB
     have hx6 := hx.tcs (World.block_lt_of_cell? _ _ (hx 0 _ rfl).1) ht6 (fun e => by omega)
     have hc6 : ∀ m, m < 16 → W6.cell? ⟨bO, m, none⟩ = some (.string (tx (opTab.getD m []))) := fun m hm => (World.cell?_of_block (a := ⟨bO, m, none⟩) (ht6.block bO hz (fun e => by omega))).trans (hc m hm)
     have hb6 := ht6.below hb hb.size (fun k hk => by have := HBw.out; omega)
     have hck := hc6 k hlt
     have HI6 := hide (is_any hP6 (opTab.getD k []))
     have HX6 := hide hx6
     have HM6 := hide hm6
     have HP6 := hide hP6
     have HC6 := hide hc6
     have Hb6 := hide hb6
     have HW6 := hide hW6
     have hz6 : bO < W6.heap.size := Nat.lt_of_lt_of_le hz ht6.size
     clear hno hP hx hm hc hb hW6 ht6 hm6 hP6 hx6 hc6 hb6 HX HP HCo Hb hz
     generalize htxt : opTab.getD k [] = ok at *
     have HTx := hide htxt
     clear htxt
     go_upto_region 12 with fail
     rw [← HW6.out]
     go_wp2_with fail
     refine HI6.out.mono ?_
     rintro e w7 ⟨rfl, hb7⟩
     have hx7 := HX6.out.below hb7
     have hm7 := HM6.out.below hb7
     have hb07 := Hb6.out.trans (hb7.mono Hb6.out.size)
     clear hck y0 z0 y1 z1 y2 z2
     cases hi : isS G.T ok s with
     | true =>
      have hif : ifS G.T s = some (opTab.getD k [], ⟨7, (k : Int), tx []⟩, strN ⟨7, (k : Int), tx []⟩) := by
       rw [HLo.out, ← ops_at k hlt]
       exact find_at (p := fun o : List UInt8 × Nd × Int => isS G.T o.1 s) (l := opsL.drop 2) (k := k) (by show k < 16; exact hlt) (fun j hj => by rw [ops_at j (by omega)]; exact HNo.out j hj) (by rw [ops_at k hlt]; rw [HTx.out]; exact hi)
      have HIn := hide (in_yes (least := least) hif)
      obtain ⟨st, hst⟩ : ∃ st, st = strN ⟨7, (k : Int), tx []⟩ := ⟨_, rfl⟩
      rw [← hst] at HIn
      have HSt : Hid (∀ W, Calls Tryz.prog 115 #[.agg #[.int .i64 7, .int .i64 (k : Int), .string ⟨#[]⟩]] W fun e w' => e = .returned (.int .i64 st) ∧ Below W.heap.size W w') := fun W => by rw [hst]; exact str_any ⟨7, (k : Int), tx []⟩ (nd7 k hlt) W
      obtain ⟨y0, z0⟩ := hx7 0 _ rfl
      obtain ⟨y1, z1⟩ := hx7 1 _ rfl
      obtain ⟨y2, z2⟩ := hx7 2 _ rfl
      have m0 := (hm7 0 _ rfl).1
      have m1 := (hm7 1 _ rfl).1
      have m2 := (hm7 2 _ rfl).1
      have HX7 := hide hx7
      have HM7 := hide hm7
      have Hb7 := hide hb07
      have nB : ¬ B = B + 1 := by omega
      clear hif hst hi hx7 hm7 hb07 hb7 HI6 HNo HLo HTx
      go_wp2_with fail
      go_region_held (fun W => W.cell? ⟨B + 1, 0, none⟩ = some (.int .i64 7) ∧ W.cell? ⟨B + 1, 1, none⟩ = some (.int .i64 (k : Int)) ∧ W.cell? ⟨B + 1, 2, none⟩ = some (.string ⟨#[]⟩)) (go_keep)
       (first
       | ((with_reducible refine Calls.mono (HSt.out _) ?_); intro x wn hx; obtain ⟨hxe, hbn⟩ := hx; subst hxe; have hbw : Below w7.heap.size w7 wn := ((Below.refl _ _).drew).trans (hbn.mono (by simp)); have hmn := HM7.out.below hbw; have q : wn.cell? ⟨B + 1, 0, none⟩ = some (.int .i64 7) ∧ wn.cell? ⟨B + 1, 1, none⟩ = some (.int .i64 (k : Int)) ∧ wn.cell? ⟨B + 1, 2, none⟩ = some (.string ⟨#[]⟩) := ⟨(hmn 0 _ rfl).1, (hmn 1 _ rfl).1, (hmn 2 _ rfl).1⟩; have hxn := HX7.out.below hbw; obtain ⟨y0, z0⟩ := hxn 0 _ rfl; obtain ⟨y1, z1⟩ := hxn 1 _ rfl; obtain ⟨y2, z2⟩ := hxn 2 _ rfl; have HXn := hide hxn; have Hbn := hide (Hb7.out.trans (hbw.mono Hb7.out.size))))
      go_wp2_with fail
      obtain ⟨X, hX⟩ : ∃ X, X = (((wn.setCell ⟨B, 0, none⟩ (.int .i64 7)).setCell ⟨B, 1, none⟩ (.int .i64 (k : Int))).setCell ⟨B, 2, none⟩ (.string ⟨#[]⟩)) := ⟨_, rfl⟩
      rw [← hX]
      obtain ⟨⟨t0, t1, t2⟩, hE⟩ := node_end2 (n := ⟨7, (k : Int), ⟨#[]⟩⟩) HXn.out Hbn.out HBw.out hX
      exact bodyPost_ret (v := .tuple #[.bool (decide (least ≤ st)), .agg #[.int .i64 7, .int .i64 (k : Int), .string ⟨#[]⟩]]) (by simp [results, Tryz.results153, go_sem]; first | (rw [t0, t1, t2]; rfl) | simp [t0, t1, t2, tx]) rfl ⟨HIn.out, hE⟩
     | false =>
      have HPn := hide (HP6.out.below hb7)
      have HCn : Hid (∀ m, m < 16 → w7.cell? ⟨bO, m, none⟩ = some (.string (tx (opTab.getD m [])))) := fun m hm => (hb7.cell (p := ⟨bO, m, none⟩) hz6).trans (HC6.out m hm)
      have HRel : Hid (∀ j, j < k + 1 → isS G.T (opTab.getD j []) s = false) := fun j hj => by
       by_cases e : j = k
       ·subst e; rw [HTx.out]; exact hi
       ·exact HNo.out j (by omega)
      have HX7 := hide hx7
      have HM7 := hide hm7
      have Hb7 := hide hb07
      have hz7 : bO < w7.heap.size := Nat.lt_of_lt_of_le hz6 hb7.size
      clear hi hx7 hm7 hb07 hb7 HI6
      go_wp2_with fail
      go_roundw
      case rel => exact ⟨k + 1, 7, (k : Int), by go_num, by omega, HRel.out, HPn.out, HX7.out, HM7.out, HCn.out, Hb7.out, hz7⟩
      case measure => simp [RowKit.intOf]; omega
    ·obtain rfl : k = 16 := by omega
     have hif : ifS G.T s = none := by
      rw [HLo.out]
      exact find_no (fun j hj => by
       have hj' : j < 16 := hj
       rw [ops_at j hj']
       exact hno j hj')
     have HIn := hide (in_no (least := least) ⟨a, b, tx []⟩ hif)
     obtain ⟨y0, z0⟩ := hx 0 _ rfl
     obtain ⟨y1, z1⟩ := hx 1 _ rfl
     obtain ⟨y2, z2⟩ := hx 2 _ rfl
     have m0 := (hm 0 _ rfl).1
     have m1 := (hm 1 _ rfl).1
     have m2 := (hm 2 _ rfl).1
     have nB : ¬ B = B + 1 := by omega
     clear hif hno hP hx hm hc hb hz HNo HP HCo
     go_wp2_with fail
     go_region
     go_wp2_with fail
     obtain ⟨X, hX⟩ : ∃ X, X = (((wr.setCell ⟨B, 0, none⟩ (.int .i64 a)).setCell ⟨B, 1, none⟩ (.int .i64 b)).setCell ⟨B, 2, none⟩ (.string ⟨#[]⟩)).drew := ⟨_, rfl⟩
     rw [← hX]
     obtain ⟨⟨t0, t1, t2⟩, hE⟩ := node_end (n := ⟨a, b, ⟨#[]⟩⟩) HX.out Hb.out HBw.out hX
     exact bodyPost_ret (v := .tuple #[.bool false, .agg #[.int .i64 a, .int .i64 b, .string ⟨#[]⟩]]) (by simp [results, Tryz.results153, go_sem]; first | (rw [t0, t1, t2]; rfl) | simp [t0, t1, t2, tx]) rfl ⟨HIn.out, hE⟩
end
end Go.Proofs.YtlamjfhhefcohaaGreatDoor
