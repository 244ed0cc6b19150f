import Derived.Test.YtlamjfhhefcohaaGreatDoorM22
import Derived.WalkLawsBesides
import Derived.Deep.MidRow
import Derived.Deep.QuietTactic
import Derived.BigQuiet
namespace Go.Proofs.YtlamjfhhefcohaaGreatDoor
set_option linter.unusedVariables false
set_option linter.unusedSimpArgs false
set_option maxRecDepth 100000
set_option maxHeartbeats 16000000
section
open Go.RowKit
def binCs : List Value := binL.flatMap fun r => [.string (tx r.1), .int .i64 r.2.1, .int .i64 r.2.2.1, .int .i64 r.2.2.2]
structure RC where
 P : Nat
 bX : Nat
 cX : Nat
 B0 : Nat
 K : Nat
 l : List UInt8
structure TV where
 vg : Value
 vf : Value
 nz : Bool
def RC.box (C : RC) (pos kd : Int) (tt : ByteArray) (vl pl : Int) (m : TV) (op : Int) : List Value := [.slice (some ⟨C.bX, 0, none⟩) C.l.length C.cX, .int .i64 pos, .int .i64 kd, .string tt, .int .i64 vl, .int .i64 pl, m.vg, m.vf, .int .i64 op, .bool m.nz]
structure COk (C : RC) : Prop where
 lo : C.bX < C.B0
 hi : C.B0 ≤ C.P
 gb : 7 < C.B0
 ge : 4 < C.B0
 len : C.l.length ≤ 20000
 cap : C.l.length ≤ C.cX
 las : Las (tokT C.l) C.K
def Erv (w : World) : Prop := ∃ ev, w.cell? ⟨4, 0, none⟩ = some ev ∧ (ev = .nilIface ∨ ∃ te pe, ev = .iface te pe)
theorem Erv.tcs {S : Nat → Prop} {w w' : World} (h : Erv w) (ht : Tcs S w w') (hS : ¬ S 4) : Erv w' := by
 obtain ⟨ev, h1, h2⟩ := h
 exact ⟨ev, (World.cell?_of_block (a := ⟨4, 0, none⟩) (ht.block 4 (World.block_lt_of_cell? _ _ h1) hS)).trans h1, h2⟩
structure RBx (C : RC) (w : World) (pos kd : Int) (tt : ByteArray) (vl pl : Int) (m : TV) (op : Int) : Prop where
 box : FrC w C.P (C.box pos kd tt vl pl m op)
 txt : Txt w C.bX C.l
 bt : w.rangeAt 7 0 binCs
 er : Erv w
 rl : C.P + 1 < w.heap.size
theorem RBx.lt {C : RC} {w : World} {pos kd : Int} {tt : ByteArray} {vl pl : Int} {m : TV} {op : Int} (h : RBx C w pos kd tt vl pl m op) : C.P + 1 < w.heap.size := h.rl
theorem RBx.tcs {C : RC} {S : Nat → Prop} {w w' : World} {pos kd : Int} {tt : ByteArray} {vl pl : Int} {m : TV} {op : Int} (hC : COk C) (h : RBx C w pos kd tt vl pl m op) (ht : Tcs S w w') (hP : ¬ S C.P) (hS : ∀ k, S k → C.B0 ≤ k) : RBx C w' pos kd tt vl pl m op := by
 have hl := h.lt
 have hB := hC.hi
 have hx := hC.lo
 have hg := hC.gb
 exact ⟨h.box.tcs (by omega) ht hP, h.txt.tcs ht (by omega) (fun s => by have := hS _ s; omega), fun j v hv => (World.cell?_of_block (a := ⟨7, 0 + j, none⟩) (ht.block 7 (by omega) (fun s => by have := hS _ s; omega))).trans (h.bt j v hv), h.er.tcs ht (fun s => by have := hS _ s; have := hC.ge; omega), Nat.lt_of_lt_of_le h.rl ht.size⟩
theorem RBx.below {C : RC} {w w' : World} {pos kd : Int} {tt : ByteArray} {vl pl : Int} {m : TV} {op : Int} (hC : COk C) (h : RBx C w pos kd tt vl pl m op) (hb : Below w.heap.size w w') : RBx C w' pos kd tt vl pl m op := h.tcs hC (S := fun _ => False) hb.tcs (fun h => h) (fun _ h => h.elim)
theorem RBx.put {C : RC} {w : World} {pos kd : Int} {tt : ByteArray} {vl pl : Int} {m : TV} {op : Int} {pos' kd' : Int} {tt' : ByteArray} {vl' pl' : Int} {m' : TV} {op' : Int} (hC : COk C) (h : RBx C w pos kd tt vl pl m op) (i : Nat) (u : Value) (he : (C.box pos kd tt vl pl m op).set i u = C.box pos' kd' tt' vl' pl' m' op') :
  RBx C (w.setCell ⟨C.P, i, none⟩ u) pos' kd' tt' vl' pl' m' op' ∧ Tcs (fun k => k = C.P) w (w.setCell ⟨C.P, i, none⟩ u) := by
 have ht : Tcs (fun k => k = C.P) w (w.setCell ⟨C.P, i, none⟩ u) := (Tcs.refl (fun k => k = C.P) w).setCell (p := ⟨C.P, i, none⟩) rfl u
 have hb := h.box.set i u
 rw [he] at hb
 have hl := h.lt
 have hB := hC.hi
 have hx := hC.lo
 have hg := hC.gb
 exact ⟨⟨hb, h.txt.tcs ht (by omega) (by omega), fun j v hv => (World.cell?_of_block (a := ⟨7, 0 + j, none⟩) (ht.block 7 (by omega) (by omega))).trans (h.bt j v hv), h.er.tcs ht (by have := hC.ge; omega), Nat.lt_of_lt_of_le h.rl ht.size⟩, ht⟩
structure RSt (C : RC) (m : TV) (w : World) (s : PS) : Prop where
 ok : COk C
 al : ¬ dmS (tokT C.l) s
 wf : s.i ≤ C.K
 op : 0 ≤ s.op ∧ s.op ≤ 30
 bx : ∃ tt vl, RBx C w (endT C.l (s.i + 1) : Int) (kiI (tokT C.l s.i)) tt vl ((tokT C.l s.i).pl : Int) m s.op ∧ (kiI (tokT C.l s.i) = 1 ∨ kiI (tokT C.l s.i) = 3 → tt = (tokT C.l s.i).text) ∧ ((tokT C.l s.i).kind = 2 → vl = (tokT C.l s.i).num)
def flt (x : Int × Int) : Ending := .panicked [{ v := .iface 65 (.agg #[.int .i64 x.1, .int .i64 x.2]), recovered := false }]
def Kp (C : RC) (w w' : World) : Prop := Tcs (fun k => C.B0 ≤ k ∧ k ≠ C.P + 1) w w'
theorem Kp.refl (C : RC) (w : World) : Kp C w w := Tcs.refl _ _
theorem Kp.trans {C : RC} {w w1 w2 : World} (h : Kp C w w1) (h' : Kp C w1 w2) : Kp C w w2 := Tcs.trans h h'
theorem Kp.low {C : RC} {w w' : World} (h : Kp C w w') (hl : C.B0 ≤ w.heap.size) : Below C.B0 w w' := Tcs.below h (Below.refl _ _) hl (fun k hk => hk.1)
theorem Kp.of {C : RC} {w w' : World} (h : Below w.heap.size w w') : Kp C w w' := h.tcs
def DieI (C : RC) (w : World) (z : PS) (e : Ending) (w' : World) : Prop := dmS (tokT C.l) z ∧ e = flt (fvS (tokT C.l) z) ∧ Kp C w w'
theorem RSt.lt {C : RC} {m : TV} {w : World} {s : PS} (h : RSt C m w s) : C.P + 1 < w.heap.size := by
 obtain ⟨tt, vl, h1, -⟩ := h.bx
 exact h1.lt
theorem RSt.tcs {C : RC} {m : TV} {S : Nat → Prop} {w w' : World} {s : PS} (h : RSt C m w s) (ht : Tcs S w w') (hP : ¬ S C.P) (hS : ∀ k, S k → C.B0 ≤ k) : RSt C m w' s := by
 obtain ⟨tt, vl, h1, h2⟩ := h.bx
 exact ⟨h.ok, h.al, h.wf, h.op, tt, vl, h1.tcs h.ok ht hP hS, h2⟩
theorem RSt.below {C : RC} {m : TV} {w w' : World} {s : PS} (h : RSt C m w s) (hb : Below w.heap.size w w') : RSt C m w' s := h.tcs (S := fun _ => False) hb.tcs (fun h => h) (fun _ h => h.elim)
theorem DieI.later {C : RC} {w w1 w' : World} {z z' : PS} {e : Ending} (h : DieI C w1 z e w') (hd : Dm (tokT C.l) z z') (hb : Kp C w w1) : DieI C w z' e w' := by
 obtain ⟨h1, h2, h3⟩ := h
 obtain ⟨h4, h5⟩ := hd h1
 exact ⟨h4, by rw [h5]; exact h2, hb.trans h3⟩
theorem tcs_b0 {C : RC} {w w' : World} {S : Nat → Prop} (h : Tcs S w w') (hS : ∀ k, S k → C.B0 ≤ k ∧ k ≠ C.P + 1) (hl : C.B0 ≤ w.heap.size) : Kp C w w' := h.mono hS
theorem RSt.b0 {C : RC} {m : TV} {w : World} {s : PS} (h : RSt C m w s) : C.B0 ≤ w.heap.size := by have := h.lt; have := h.ok.hi; omega
theorem RSt.tb {C : RC} {m : TV} {w w' : World} {s : PS} (h : RSt C m w s) (ht : Tcs (fun k => k = C.P) w w') : Kp C w w' := tcs_b0 ht (fun k hk => by rw [hk]; exact ⟨h.ok.hi, by omega⟩) h.b0
set_option maxRecDepth 100000 in
set_option maxHeartbeats 1000000 in
theorem failR_any {C : RC} {w : World} {pos kd : Int} {tt : ByteArray} {vl pl : Int} {m : TV} {op : Int} (h : RBx C w pos kd tt vl pl m op) (c : Int) : Calls Tryz.prog 122 #[.pointer (some ⟨C.P, 0, none⟩), .int .i64 c] w fun e w' => e = flt (c, pl) ∧ w' = w := by
 have p5 : w.cell? ⟨C.P, 5, none⟩ = some (.int .i64 pl) := (h.box 5 _ rfl).1
 unfold flt
 clear h
 go_enter Tryz.func122, Tryz.ntmps122
 go_wp2_with fail
 exact ⟨rfl, rfl, rfl⟩
set_option maxRecDepth 100000 in
set_option maxHeartbeats 1000000 in
theorem sees_any {C : RC} {m : TV} {w : World} {s : PS} (h : RSt C m w s) (x : List UInt8) (hx : fixB x = true) : Calls Tryz.prog 94 #[.pointer (some ⟨C.P, 0, none⟩), .string (tx x)] w fun e w' => e = .returned (.bool (isS (tokT C.l) x s)) ∧ w' = w := by
 obtain ⟨tt, vl, hb, h1, -⟩ := h.bx
 have hs := sees_is (l := C.l) (s := s) (al_er h.al) hx (tt := tt) (fun h3 => h1 (.inr h3))
 have p2 : w.cell? ⟨C.P, 2, none⟩ = some (.int .i64 (kiI (tokT C.l s.i))) := (hb.box 2 _ rfl).1
 have p3 : w.cell? ⟨C.P, 3, none⟩ = some (.string tt) := (hb.box 3 _ rfl).1
 rw [← hs]
 generalize kiI (tokT C.l s.i) = ki at *
 generalize tx x = xx at *
 clear hs hb h1 h hx
 by_cases h3 : ki = 3
 ·subst h3
  go_enter Tryz.func94, Tryz.ntmps94
  go_wp2_with fail
  go_ret
  exact ⟨by simp [str_eq], rfl⟩
 ·have e3 : (ki == 3) = false := by simpa using h3
  go_enter Tryz.func94, Tryz.ntmps94
  go_wp2_with fail
  go_ret
  exact ⟨by simp [h3], rfl⟩
end
section
open Go.RowKit
theorem blk_any (c : Int) (w : World) : Calls Tryz.prog 85 #[.int .u8 c] w fun e w' => e = .returned (.bool (decide (c = 32 ∨ c = 10))) ∧ w' = w := by
 go_enter Tryz.func85, Tryz.ntmps85
 go_wp2
 all_goals go_ret
 all_goals (refine ⟨ret_bool ?_, rfl⟩; apply Bool.eq_iff_iff.2; simp <;> omega)
theorem blkU_i (c : UInt8) : decide (cI c = 32 ∨ cI c = 10) = blkU c := by
 unfold blkU cI
 apply Bool.eq_iff_iff.2
 simp only [decide_eq_true_eq]
 constructor
 ·rintro (h | h)
  ·left; apply UInt8.toNat_inj.1; show c.toNat = 32; omega
  ·right; apply UInt8.toNat_inj.1; show c.toNat = 10; omega
 ·rintro (rfl | rfl)
  ·left; rfl
  ·right; rfl
def Byts (w : World) (b o : Nat) (r : List UInt8) : Prop := ∀ j (hj : j < r.length), w.cell? ⟨b, o + j, none⟩ = some (.int .u8 (cI r[j]))
set_option maxHeartbeats 400000 in
theorem spanB_any (b o cap : Nat) (r : List UInt8) (w : World) (hs : r.length ≤ 1000000) (hc : Byts w b o r) :
  Calls Tryz.prog 84 #[.slice (some ⟨b, o, none⟩) r.length cap, .func (.func 85) #[] #[]] w fun e w' => e = .returned (.int .i64 ((r.takeWhile blkU).length : Int)) ∧ w' = w := by
 have HTw := hide (tw_is blkU r)
 have HLn : Hid (∀ d, d ≤ r.length → (r.take d).length = d) := fun d hd => by rw [List.length_take]; omega
 generalize r.takeWhile blkU = tk at *
 have HC := hide hc
 clear hc
 go_enter Tryz.func84, Tryz.ntmps84
 go_wp2_with fail
 go_loop [9] (fun i => ∃ k : Nat, k ≤ r.length ∧ i = .int .i64 k ∧ ∀ j (hj : j < r.length), j < k → blkU r[j] = true) (fun i => r.length - (RowKit.intOf i).toNat)
 case atStart => exact ⟨0, Nat.zero_le _, rfl, fun j _ hj => absurd hj (Nat.not_lt_zero _)⟩
 case round =>
  obtain ⟨k, hk, rfl, hl⟩ := hrel
  have HL := hide hl
  clear hl
  by_cases hlt : k < r.length
  ·have hck := HC.out k hlt
   cases hd : blkU r[k]
   ·have HF : Hid (((tk.length : Nat) : Int) = (k : Int)) := by show _ = _; rw [HTw.out k hk HL.out (fun _ => hd), HLn.out k hk]
    have hd' : decide (cI r[k] = 32 ∨ cI r[k] = 10) = false := (by rw [blkU_i]; exact hd)
    generalize cI r[k] = cc at *
    go_wp2_with (go_at_call 85; refine (blk_any _ _).mono ?_; rintro e w' ⟨rfl, rfl⟩; rw [hd'])
    go_ret
    exact ⟨by rw [HF.out]; rfl, rfl⟩
   ·have hd' : decide (cI r[k] = 32 ∨ cI r[k] = 10) = true := (by rw [blkU_i]; exact hd)
    have HN : Hid (∀ j (hj : j < r.length), j < k + 1 → blkU r[j] = true) := fun j hj hjk => by
     by_cases e : j = k
     ·subst e; exact hd
     ·exact HL.out j hj (by omega)
    generalize cI r[k] = cc at *
    go_wp2_with (go_at_call 85; refine (blk_any _ _).mono ?_; rintro e w' ⟨rfl, rfl⟩; rw [hd'])
    go_round
    case rel => exact ⟨k + 1, by omega, by go_num, HN.out⟩
    case measure => simp [RowKit.intOf]; omega
  ·have HF : Hid (((tk.length : Nat) : Int) = (r.length : Int)) := by show _ = _; rw [HTw.out r.length (Nat.le_refl _) (fun j hj _ => HL.out j hj (by omega)) (fun h => absurd h (Nat.lt_irrefl _)), HLn.out r.length (Nat.le_refl _)]
   go_wp2_with fail
   go_ret
   exact ⟨by rw [HF.out]; rfl, rfl⟩
set_option maxHeartbeats 400000 in
theorem spanL_any (b o cap : Nat) (r : List UInt8) (w : World) (hs : r.length ≤ 1000000) (hc : Byts w b o r) :
  Calls Tryz.prog 84 #[.slice (some ⟨b, o, none⟩) r.length cap, .func (.func 123) #[] #[]] w fun e w' => e = .returned (.int .i64 ((r.takeWhile latU).length : Int)) ∧ w' = w := by
 have HTw := hide (tw_is latU r)
 have HLn : Hid (∀ d, d ≤ r.length → (r.take d).length = d) := fun d hd => by rw [List.length_take]; omega
 generalize r.takeWhile latU = tk at *
 have HC := hide hc
 clear hc
 go_enter Tryz.func84, Tryz.ntmps84
 go_wp2_with fail
 go_loop [9] (fun i => ∃ k : Nat, k ≤ r.length ∧ i = .int .i64 k ∧ ∀ j (hj : j < r.length), j < k → latU r[j] = true) (fun i => r.length - (RowKit.intOf i).toNat)
 case atStart => exact ⟨0, Nat.zero_le _, rfl, fun j _ hj => absurd hj (Nat.not_lt_zero _)⟩
 case round =>
  obtain ⟨k, hk, rfl, hl⟩ := hrel
  have HL := hide hl
  clear hl
  by_cases hlt : k < r.length
  ·have hck := HC.out k hlt
   cases hd : latU r[k]
   ·have HF : Hid (((tk.length : Nat) : Int) = (k : Int)) := by show _ = _; rw [HTw.out k hk HL.out (fun _ => hd), HLn.out k hk]
    have hd' : laterB (cI r[k]) = false := hd
    generalize cI r[k] = cc at *
    go_wp2_with (go_at_call 123; refine (span1_any _ _).mono ?_; rintro e w' ⟨rfl, rfl⟩; rw [hd'])
    go_ret
    exact ⟨by rw [HF.out]; rfl, rfl⟩
   ·have hd' : laterB (cI r[k]) = true := hd
    have HN : Hid (∀ j (hj : j < r.length), j < k + 1 → latU r[j] = true) := fun j hj hjk => by
     by_cases e : j = k
     ·subst e; exact hd
     ·exact HL.out j hj (by omega)
    generalize cI r[k] = cc at *
    go_wp2_with (go_at_call 123; refine (span1_any _ _).mono ?_; rintro e w' ⟨rfl, rfl⟩; rw [hd'])
    go_round
    case rel => exact ⟨k + 1, by omega, by go_num, HN.out⟩
    case measure => simp [RowKit.intOf]; omega
  ·have HF : Hid (((tk.length : Nat) : Int) = (r.length : Int)) := by show _ = _; rw [HTw.out r.length (Nat.le_refl _) (fun j hj _ => HL.out j hj (by omega)) (fun h => absurd h (Nat.lt_irrefl _)), HLn.out r.length (Nat.le_refl _)]
   go_wp2_with fail
   go_ret
   exact ⟨by rw [HF.out]; rfl, rfl⟩
set_option maxHeartbeats 400000 in
theorem spanD_any (b o cap : Nat) (r : List UInt8) (w : World) (hs : r.length ≤ 1000000) (hc : Byts w b o r) :
  Calls Tryz.prog 84 #[.slice (some ⟨b, o, none⟩) r.length cap, .func (.func 89) #[] #[]] w fun e w' => e = .returned (.int .i64 ((r.takeWhile digU).length : Int)) ∧ w' = w := by
 have HTw := hide (tw_is digU r)
 have HLn : Hid (∀ d, d ≤ r.length → (r.take d).length = d) := fun d hd => by rw [List.length_take]; omega
 generalize r.takeWhile digU = tk at *
 have HC := hide hc
 clear hc
 go_enter Tryz.func84, Tryz.ntmps84
 go_wp2_with fail
 go_loop [9] (fun i => ∃ k : Nat, k ≤ r.length ∧ i = .int .i64 k ∧ ∀ j (hj : j < r.length), j < k → digU r[j] = true) (fun i => r.length - (RowKit.intOf i).toNat)
 case atStart => exact ⟨0, Nat.zero_le _, rfl, fun j _ hj => absurd hj (Nat.not_lt_zero _)⟩
 case round =>
  obtain ⟨k, hk, rfl, hl⟩ := hrel
  have HL := hide hl
  clear hl
  by_cases hlt : k < r.length
  ·have hck := HC.out k hlt
   cases hd : digU r[k]
   ·have HF : Hid (((tk.length : Nat) : Int) = (k : Int)) := by show _ = _; rw [HTw.out k hk HL.out (fun _ => hd), HLn.out k hk]
    have hd' : digitB (cI r[k]) = false := hd
    generalize cI r[k] = cc at *
    go_wp2_with (go_at_call 89; refine (digit_any _ _).mono ?_; rintro e w' ⟨rfl, rfl⟩; rw [hd'])
    go_ret
    exact ⟨by rw [HF.out]; rfl, rfl⟩
   ·have hd' : digitB (cI r[k]) = true := hd
    have HN : Hid (∀ j (hj : j < r.length), j < k + 1 → digU r[j] = true) := fun j hj hjk => by
     by_cases e : j = k
     ·subst e; exact hd
     ·exact HL.out j hj (by omega)
    generalize cI r[k] = cc at *
    go_wp2_with (go_at_call 89; refine (digit_any _ _).mono ?_; rintro e w' ⟨rfl, rfl⟩; rw [hd'])
    go_round
    case rel => exact ⟨k + 1, by omega, by go_num, HN.out⟩
    case measure => simp [RowKit.intOf]; omega
  ·have HF : Hid (((tk.length : Nat) : Int) = (r.length : Int)) := by show _ = _; rw [HTw.out r.length (Nat.le_refl _) (fun j hj _ => HL.out j hj (by omega)) (fun h => absurd h (Nat.lt_irrefl _)), HLn.out r.length (Nat.le_refl _)]
   go_wp2_with fail
   go_ret
   exact ⟨by rw [HF.out]; rfl, rfl⟩
set_option maxHeartbeats 400000 in
theorem nspanL_any (b o cap : Nat) (r : List UInt8) (w : World) (h0 : 0 < r.length) (hs : r.length ≤ 1000000) (hf : fstU r[0] = true) (hc : Byts w b o r) :
  Calls Tryz.prog 88 #[.slice (some ⟨b, o, none⟩) r.length cap] w fun e w' => e = .returned (.int .i64 ((r.takeWhile latU).length : Int)) ∧ w' = w := by
 have hc0 : w.cell? ⟨b, o, none⟩ = some (.int .u8 (cI r[0])) := hc 0 h0
 have hne : ((r.length : Int) == 0) = false := by simp only [beq_eq_false_iff_ne]; omega
 have HS := hide (spanL_any b o cap r w hs hc)
 have hd : smallB (cI r[0]) = true := hf
 generalize cI r[0] = cc at *
 clear hc hf
 go_enter Tryz.func88, Tryz.ntmps88
 go_wp2_with (go_at_call 86; refine (small_any _ _).mono ?_; rintro e w' ⟨rfl, rfl⟩; rw [hd])
 refine HS.out.mono ?_
 rintro e w' ⟨rfl, rfl⟩
 go_wp2_with fail
 go_ret
 exact ⟨rfl, rfl⟩
end
section
open Go.RowKit
def Go1 (C : RC) (m : TV) (w : World) (z : PS) (v : Value) (e : Ending) (w' : World) : Prop := (¬ dmS (tokT C.l) z ∧ e = .returned v ∧ RSt C m w' z ∧ Tcs (fun k => k = C.P) w w') ∨ DieI C w z e w'
def NxI (C : RC) : Prop := ∀ (w : World) (i : Nat) (kd : Int) (tt : ByteArray) (vl pl : Int) (m : TV) (op : Int), COk C → RBx C w (endT C.l i : Int) kd tt vl pl m op → i ≤ C.K → 0 ≤ op ∧ op ≤ 30 →
 Calls Tryz.prog 58 #[.pointer (some ⟨C.P, 0, none⟩)] w fun e w' => ∀ z : PS, z.i = i → z.er = 0 → z.op = op → Go1 C m w z (.tuple #[]) e w'
theorem is_ltI {C : RC} {m : TV} {w : World} {x : List UInt8} {s : PS} (h : RSt C m w s) (hi : isS (tokT C.l) x s = true) : s.i < C.K := by
 have := (is_ad h.ok.las h.wf hi).1
 unfold Wf PS.ad at this
 simp only at this
 omega
theorem adv_any {C : RC} {m : TV} {w : World} {s : PS} (HN : NxI C) (h : RSt C m w s) (hK : s.i < C.K) : Calls Tryz.prog 58 #[.pointer (some ⟨C.P, 0, none⟩)] w (Go1 C m w s.ad (.tuple #[])) := by
 obtain ⟨tt, vl, h1, -⟩ := h.bx
 refine (HN w (s.i + 1) _ _ _ _ m s.op h.ok h1 (by omega) h.op).mono ?_
 intro e w' hz
 exact hz s.ad rfl (show s.er = 0 from al_er h.al) rfl
set_option maxRecDepth 100000 in
set_option maxHeartbeats 1000000 in
theorem skip_any {C : RC} {m : TV} {w : World} {s : PS} (HN : NxI C) (h : RSt C m w s) (x : List UInt8) (hx : fixB x = true) : Calls Tryz.prog 126 #[.pointer (some ⟨C.P, 0, none⟩), .string (tx x)] w fun e w' => (isS (tokT C.l) x s = false ∧ e = .returned (.bool false) ∧ w' = w) ∨ (isS (tokT C.l) x s = true ∧ Go1 C m w s.ad (.bool true) e w') := by
 have HS := hide (sees_any h x hx)
 cases hi : isS (tokT C.l) x s with
 | false =>
  rw [hi] at HS
  generalize tx x = xx at *
  clear h
  go_enter Tryz.func126, Tryz.ntmps126
  go_wp2_with fail
  refine HS.out.mono ?_
  rintro e w1 ⟨rfl, rfl⟩
  go_wp2_with fail
  go_ret
  exact .inl ⟨trivial, rfl, rfl⟩
 | true =>
  have HA := hide (adv_any HN h (is_ltI h hi))
  rw [hi] at HS
  generalize tx x = xx at *
  clear h
  go_enter Tryz.func126, Tryz.ntmps126
  go_wp2_with fail
  refine HS.out.mono ?_
  rintro e w1 ⟨rfl, hw⟩
  rw [hw]
  clear hw
  go_wp2_with fail
  refine HA.out.mono ?_
  rintro e w2 (⟨h1, rfl, h3, h4⟩ | hd)
  ·have HF : Hid (Go1 C m w s.ad (.bool true) (.returned (.bool true)) w2) := .inl ⟨h1, rfl, h3, h4⟩
   clear h1 h3 h4
   go_wp2_with fail
   go_ret
   exact .inr ⟨trivial, HF.out⟩
  ·have HF : Hid (Go1 C m w s.ad (.bool true) e w2) := .inr hd
   obtain ⟨-, rfl, -⟩ := hd
   unfold flt at *
   go_wp2_with fail
   exact ⟨rfl, .inr ⟨trivial, HF.out⟩⟩
set_option maxRecDepth 100000 in
set_option maxHeartbeats 1000000 in
theorem expect_any {C : RC} {m : TV} {w : World} {s : PS} (HN : NxI C) (h : RSt C m w s) (x : List UInt8) (hx : fixB x = true) : Calls Tryz.prog 92 #[.pointer (some ⟨C.P, 0, none⟩), .string (tx x)] w (Go1 C m w (taS (tokT C.l) x s) (.tuple #[])) := by
 have HS := hide (skip_any HN h x hx)
 have HFa : Hid (∀ c, Calls Tryz.prog 122 #[.pointer (some ⟨C.P, 0, none⟩), .int .i64 c] w fun e w' => e = flt (c, ((tokT C.l s.i).pl : Int)) ∧ w' = w) := fun c => by
  obtain ⟨tt, vl, h1, -⟩ := h.bx
  exact failR_any h1 c
 have HNo : Hid (isS (tokT C.l) x s = false → DieI C w (taS (tokT C.l) x s) (flt (3, ((tokT C.l s.i).pl : Int))) w) := fun hi => by
  obtain ⟨h1, h2⟩ := ta_no h.al hi
  exact ⟨h1, by rw [h2], Kp.refl _ _⟩
 have HYe : Hid (isS (tokT C.l) x s = true → taS (tokT C.l) x s = s.ad) := ta_yes
 clear h
 generalize tx x = xx at *
 generalize ((tokT C.l s.i).pl : Int) = pl at *
 go_enter Tryz.func92, Tryz.ntmps92
 go_wp2_with fail
 refine HS.out.mono ?_
 rintro e w1 (⟨hi, rfl, hw⟩ | ⟨hi, ⟨h1, rfl, h3, h4⟩ | hd⟩)
 ·rw [hw]
  clear hw
  have HF := hide (HNo.out hi)
  go_wp2_with fail
  refine (HFa.out 3).mono ?_
  rintro e w2 ⟨rfl, hw⟩
  rw [hw]
  clear hw
  unfold flt at *
  go_wp2_with fail
  exact ⟨rfl, .inr HF.out⟩
 ·have HF : Hid (Go1 C m w (taS (tokT C.l) x s) (.tuple #[]) (.returned (.tuple #[])) w1) := by
   show Go1 _ _ _ _ _ _ _
   rw [HYe.out hi]
   exact .inl ⟨h1, rfl, h3, h4⟩
  clear h1 h3 h4
  go_wp2_with fail
  exact bodyPost_end (v := .tuple #[]) (by simp [results, Tryz.results92, go_sem]) rfl HF.out
 ·have HF : Hid (Go1 C m w (taS (tokT C.l) x s) (.tuple #[]) e w1) := by
   show Go1 _ _ _ _ _ _ _
   rw [HYe.out hi]
   exact .inr hd
  obtain ⟨-, rfl, -⟩ := hd
  unfold flt at *
  go_wp2_with fail
  exact ⟨rfl, HF.out⟩
end
section
open Go.RowKit
theorem ki_lt {C : RC} {m : TV} {w : World} {s : PS} (h : RSt C m w s) (hk : kiI (tokT C.l s.i) = 1 ∨ kiI (tokT C.l s.i) = 2) : s.i < C.K := by
 have h1 := h.wf
 by_cases e : s.i = C.K
 ·exfalso
  have h4 := h.ok.las.at4
  rw [← e] at h4
  have h5 := al_k5 h.al
  have hK := (tokT_kind C.l s.i).2
  have : (tokT C.l s.i).kind = 4 := by omega
  rcases hk with hk | hk <;> (unfold kiI at hk; rw [if_pos this] at hk; cases hk)
 ·omega
theorem RSt.reop {C : RC} {m : TV} {w : World} {s : PS} (h : RSt C m w s) (k : Int) (hk : 0 ≤ k ∧ k ≤ 30) : RSt C m (w.setCell ⟨C.P, 8, none⟩ (.int .i64 k)) { s with op := k } ∧ Tcs (fun q => q = C.P) w (w.setCell ⟨C.P, 8, none⟩ (.int .i64 k)) := by
 obtain ⟨tt, vl, h1, h2⟩ := h.bx
 obtain ⟨h3, h4⟩ := h1.put h.ok (op' := k) 8 (.int .i64 k) rfl
 exact ⟨⟨h.ok, h.al, h.wf, hk, tt, vl, h3, h2⟩, h4⟩
theorem RSt.cop {C : RC} {m : TV} {w : World} {s : PS} (h : RSt C m w s) : w.cell? ⟨C.P, 8, none⟩ = some (.int .i64 s.op) ∧ w.frozen? ⟨C.P, 8, none⟩ = false := by
 obtain ⟨tt, vl, h1, -⟩ := h.bx
 exact h1.box 8 _ rfl
theorem RSt.cki {C : RC} {m : TV} {w : World} {s : PS} (h : RSt C m w s) : w.cell? ⟨C.P, 2, none⟩ = some (.int .i64 (kiI (tokT C.l s.i))) := by
 obtain ⟨tt, vl, h1, -⟩ := h.bx
 exact (h1.box 2 _ rfl).1
theorem failS_any {C : RC} {m : TV} {w : World} {s : PS} (h : RSt C m w s) (c : Int) : Calls Tryz.prog 122 #[.pointer (some ⟨C.P, 0, none⟩), .int .i64 c] w fun e w' => e = flt (c, ((tokT C.l s.i).pl : Int)) ∧ w' = w := by
 obtain ⟨tt, vl, h1, -⟩ := h.bx
 exact failR_any h1 c
set_option maxRecDepth 100000 in
set_option maxHeartbeats 1000000 in
theorem deepen_any {C : RC} {m : TV} {w : World} {s : PS} (HN : NxI C) (h : RSt C m w s) {x : List UInt8} (hi : isS (tokT C.l) x s = true) : Calls Tryz.prog 157 #[.pointer (some ⟨C.P, 0, none⟩)] w (Go1 C m w (opS (tokT C.l) x s) (.tuple #[])) := by
 have p8 := h.cop.1
 have f8 := h.cop.2
 by_cases ho : s.op = 30
 ·obtain ⟨h1, h2⟩ := on_full hi ho
  have HF : Hid (Go1 C m w (opS (tokT C.l) x s) (.tuple #[]) (flt (4, ((tokT C.l s.i).pl : Int))) w) := .inr ⟨h1, by rw [h2], Kp.refl _ _⟩
  have HFa := hide (failS_any h 4)
  rw [ho] at p8
  clear h h1 h2
  generalize ((tokT C.l s.i).pl : Int) = pl at *
  go_enter Tryz.func157, Tryz.ntmps157
  go_wp2_with fail
  refine HFa.out.mono ?_
  rintro e w2 ⟨rfl, hw⟩
  rw [hw]
  clear hw
  unfold flt at *
  go_wp2_with fail
  exact ⟨rfl, HF.out⟩
 ·have e30 : (s.op == 30) = false := by simpa using ho
  have hop := h.op
  obtain ⟨h1, t1⟩ := h.reop (s.op + 1) (by omega)
  obtain ⟨W1, hW1⟩ : ∃ W1, W1 = w.setCell ⟨C.P, 8, none⟩ (.int .i64 (s.op + 1)) := ⟨_, rfl⟩
  rw [← hW1] at h1 t1
  have HA := hide (adv_any HN h1 (show s.i < C.K from is_ltI h hi))
  rw [on_yes hi ho]
  have Ht := hide t1
  have HTb := hide (h.tb t1)
  have HW := hide hW1
  clear h h1 t1 hW1 hi
  go_enter Tryz.func157, Tryz.ntmps157
  go_upto_region 3 with fail
  rw [← HW.out]
  go_wp2_with fail
  refine HA.out.mono ?_
  rintro e w2 (⟨h1, rfl, h3, h4⟩ | hd)
  ·have HF : Hid (Go1 C m w { s.ad with op := s.op + 1 } (.tuple #[]) (.returned (.tuple #[])) w2) := .inl ⟨h1, rfl, h3, Ht.out.trans h4⟩
   clear h1 h3 h4
   go_wp2_with fail
   exact bodyPost_end (v := .tuple #[]) (by simp [results, Tryz.results157, go_sem]) rfl HF.out
  ·have HF : Hid (Go1 C m w { s.ad with op := s.op + 1 } (.tuple #[]) e w2) := .inr (hd.later (Dm.refl _) HTb.out)
   obtain ⟨-, rfl, -⟩ := hd
   unfold flt at *
   go_wp2_with fail
   exact ⟨rfl, HF.out⟩
set_option maxRecDepth 100000 in
set_option maxHeartbeats 1000000 in
theorem enter_any {C : RC} {m : TV} {w : World} {s : PS} (HN : NxI C) (h : RSt C m w s) (x : List UInt8) (hx : fixB x = true) : Calls Tryz.prog 128 #[.pointer (some ⟨C.P, 0, none⟩), .string (tx x)] w (Go1 C m w (opS (tokT C.l) x s) (.tuple #[])) := by
 have HS := hide (sees_any h x hx)
 cases hi : isS (tokT C.l) x s with
 | false =>
  obtain ⟨h1, h2⟩ := on_no h.al hi
  have HF : Hid (Go1 C m w (opS (tokT C.l) x s) (.tuple #[]) (flt (3, ((tokT C.l s.i).pl : Int))) w) := .inr ⟨h1, by rw [h2], Kp.refl _ _⟩
  have HFa := hide (failS_any h 3)
  rw [hi] at HS
  clear h h1 h2
  generalize ((tokT C.l s.i).pl : Int) = pl at *
  generalize tx x = xx at *
  go_enter Tryz.func128, Tryz.ntmps128
  go_wp2_with fail
  refine HS.out.mono ?_
  rintro e w1 ⟨rfl, hw⟩
  rw [hw]
  clear hw
  go_wp2_with fail
  refine HFa.out.mono ?_
  rintro e w2 ⟨rfl, hw⟩
  rw [hw]
  clear hw
  unfold flt at *
  go_wp2_with fail
  exact ⟨rfl, HF.out⟩
 | true =>
  have HA := hide (deepen_any HN h hi)
  rw [hi] at HS
  clear h
  generalize tx x = xx at *
  go_enter Tryz.func128, Tryz.ntmps128
  go_wp2_with fail
  refine HS.out.mono ?_
  rintro e w1 ⟨rfl, hw⟩
  rw [hw]
  clear hw
  go_wp2_with fail
  refine HA.out.mono ?_
  rintro e w2 hg
  have HF := hide hg
  rcases hg with ⟨-, rfl, -⟩ | ⟨-, rfl, -⟩
  ·go_wp2_with fail
   exact bodyPost_end (v := .tuple #[]) (by simp [results, Tryz.results128, go_sem]) rfl HF.out
  ·unfold flt at *
   go_wp2_with fail
   exact ⟨rfl, HF.out⟩
set_option maxRecDepth 100000 in
set_option maxHeartbeats 1000000 in
theorem leave_any {C : RC} {m : TV} {w : World} {s : PS} (HN : NxI C) (h : RSt C m w s) (ho : 1 ≤ s.op) (x : List UInt8) (hx : fixB x = true) : Calls Tryz.prog 130 #[.pointer (some ⟨C.P, 0, none⟩), .string (tx x)] w (Go1 C m w (clS (tokT C.l) x s) (.tuple #[])) := by
 have HE := hide (expect_any HN h x hx)
 have hop := h.op
 have HOz : Hid ((taS (tokT C.l) x s).op = s.op) := ta_op _ _
 unfold clS
 generalize taS (tokT C.l) x s = z at *
 generalize tx x = xx at *
 clear h
 go_enter Tryz.func130, Tryz.ntmps130
 go_wp2_with fail
 refine HE.out.mono ?_
 rintro e w1 (⟨h1, rfl, h3, h4⟩ | hd)
 ·have p8 := h3.cop.1
  have f8 := h3.cop.2
  have hz : 1 ≤ z.op ∧ z.op ≤ 30 := by have := HOz.out; omega
  obtain ⟨h5, t5⟩ := h3.reop (z.op - 1) (by omega)
  have HF : Hid (Go1 C m w { z with op := z.op - 1 } (.tuple #[]) (.returned (.tuple #[])) (w1.setCell ⟨C.P, 8, none⟩ (.int .i64 (z.op - 1)))) := .inl ⟨h1, rfl, h5, h4.trans t5⟩
  clear h1 h3 h4 h5 t5
  go_wp2_with fail
  exact bodyPost_end (v := .tuple #[]) (by simp [results, Tryz.results130, go_sem]) rfl HF.out
 ·have HF : Hid (Go1 C m w { z with op := z.op - 1 } (.tuple #[]) e w1) := .inr (hd.later (dm_op _ _) (Kp.refl _ _))
  obtain ⟨-, rfl, -⟩ := hd
  unfold flt at *
  go_wp2_with fail
  exact ⟨rfl, HF.out⟩
end
section
open Go.RowKit
def tkV (kd : Int) (tt : ByteArray) (vl pl : Int) : Value := .agg #[.int .i64 kd, .string tt, .int .i64 vl, .int .i64 pl]
set_option maxRecDepth 100000 in
set_option maxHeartbeats 2000000 in
theorem takeT_any {C : RC} {m : TV} {w : World} {s : PS} (HN : NxI C) (h : RSt C m w s) {tt : ByteArray} {vl : Int} (hb : RBx C w (endT C.l (s.i + 1) : Int) (kiI (tokT C.l s.i)) tt vl ((tokT C.l s.i).pl : Int) m s.op) (k : Int) (hk : k = 1 ∨ k = 2) :
  Calls Tryz.prog 127 #[.pointer (some ⟨C.P, 0, none⟩), .int .i64 k] w fun e w' => (kiI (tokT C.l s.i) ≠ k ∧ e = flt (3, ((tokT C.l s.i).pl : Int)) ∧ Below w.heap.size w w') ∨ (kiI (tokT C.l s.i) = k ∧ Go1 C m w s.ad (tkV k tt vl ((tokT C.l s.i).pl : Int)) e w') := by
 obtain ⟨W1, hW1⟩ : ∃ W1, W1 = w.alloc (.cells #[.int .i64 0, .string ⟨#[]⟩, .int .i64 0, .int .i64 0] 59) := ⟨_, rfl⟩
 obtain ⟨B1, hB1⟩ : ∃ B1, B1 = w.heap.size := ⟨_, rfl⟩
 obtain ⟨W2, hW2⟩ : ∃ W2, W2 = W1.alloc (.cells #[.int .i64 (kiI (tokT C.l s.i)), .string tt, .int .i64 vl, .int .i64 ((tokT C.l s.i).pl : Int)] 59) := ⟨_, rfl⟩
 obtain ⟨B2, hB2⟩ : ∃ B2, B2 = W1.heap.size := ⟨_, rfl⟩
 have hb1 : Below w.heap.size w W1 := by rw [hW1]; exact (Below.refl _ _).alloc (Nat.le_refl _) _
 have hb2 : Below W1.heap.size W1 W2 := by rw [hW2]; exact (Below.refl _ _).alloc (Nat.le_refl _) _
 have hx1 : FrC W1 B1 [.int .i64 0, .string ⟨#[]⟩, .int .i64 0, .int .i64 0] := by rw [hW1, hB1]; exact box_fr w #[.int .i64 0, .string ⟨#[]⟩, .int .i64 0, .int .i64 0] _ (by show 4 ≤ 1000; omega)
 have hx2 : FrC W2 B2 [.int .i64 (kiI (tokT C.l s.i)), .string tt, .int .i64 vl, .int .i64 ((tokT C.l s.i).pl : Int)] := by rw [hW2, hB2]; exact box_fr W1 #[.int .i64 (kiI (tokT C.l s.i)), .string tt, .int .i64 vl, .int .i64 ((tokT C.l s.i).pl : Int)] _ (by show 4 ≤ 1000; omega)
 have hx1' := hx1.below hb2
 have hbw : Below w.heap.size w W2 := hb1.trans (hb2.mono hb1.size)
 have hs2 := h.below hbw
 have hr1 := hb.below h.ok hb1
 have p2 : W1.cell? ⟨C.P, 2, none⟩ = some (.int .i64 (kiI (tokT C.l s.i))) := (hr1.box 2 _ rfl).1
 have p3 : W1.cell? ⟨C.P, 3, none⟩ = some (.string tt) := (hr1.box 3 _ rfl).1
 have p4 : W1.cell? ⟨C.P, 4, none⟩ = some (.int .i64 vl) := (hr1.box 4 _ rfl).1
 have p5 : W1.cell? ⟨C.P, 5, none⟩ = some (.int .i64 ((tokT C.l s.i).pl : Int)) := (hr1.box 5 _ rfl).1
 have y0 := (hx2 0 _ rfl).1
 have hl := h.lt
 have hn1 : B1 ≠ C.P := by omega
 have hl1 : B1 < W1.heap.size := World.block_lt_of_cell? _ _ (hx1 0 _ rfl).1
 have hl2 : B2 < W2.heap.size := World.block_lt_of_cell? _ _ (hx2 0 _ rfl).1
 have HLs := hide (show B1 < W2.heap.size ∧ B2 < W2.heap.size ∧ B1 ≠ C.P ∧ B2 ≠ C.P ∧ B1 ≠ B2 ∧ w.heap.size ≤ B1 by have := hb2.size; omega)
 have HX1 := hide hx1'
 have HX2 := hide hx2
 have HBw := hide hbw
 have HFa := hide (failS_any hs2 3)
 have HLt : Hid (kiI (tokT C.l s.i) = k → s.i < C.K) := fun e => ki_lt h (by rcases hk with rfl | rfl; exact .inl e; exact .inr e)
 have HA : Hid (s.i < C.K → Calls Tryz.prog 58 #[.pointer (some ⟨C.P, 0, none⟩)] W2 (Go1 C m W2 s.ad (.tuple #[]))) := fun e => adv_any HN hs2 e
 have HTb := hide (show C.B0 ≤ w.heap.size from h.b0)
 have HW1 := hide hW1
 have HW2 := hide hW2
 have HB1 := hide hB1
 have HB2 := hide hB2
 unfold tkV
 generalize kiI (tokT C.l s.i) = ki at *
 generalize ((tokT C.l s.i).pl : Int) = pl at *
 clear hW1 hW2 hB1 hB2 hb1 hb2 hx1 hx2 hx1' hbw hs2 hr1 h hb hn1 hl1 hl2 hl hk
 by_cases hq : ki = k
 ·subst hq
  have HAd := hide (HA.out (HLt.out rfl))
  go_enter Tryz.func127, Tryz.ntmps127
  go_upto_region 1 with fail
  rw [← HW1.out, ← HB1.out]
  go_upto_region 2 with fail
  rw [← HW2.out, ← HB2.out]
  go_wp2_with fail
  refine HAd.out.mono ?_
  rintro e w3 (⟨h1, rfl, h3, h4⟩ | hd)
  ·obtain ⟨l1, l2, n1, n2, n3, n4⟩ := HLs.out
   have hy1 := HX1.out.tcs l1 h4 n1
   have hy2 := HX2.out.tcs l2 h4 n2
   have q0 := (hy2 0 _ rfl).1
   have q1 := (hy2 1 _ rfl).1
   have q2 := (hy2 2 _ rfl).1
   have q3 := (hy2 3 _ rfl).1
   have g0 := (hy1 0 _ rfl).1
   have g1 := (hy1 1 _ rfl).1
   have g2 := (hy1 2 _ rfl).1
   have g3 := (hy1 3 _ rfl).1
   have z0 := (hy1 0 _ rfl).2
   have z1 := (hy1 1 _ rfl).2
   have z2 := (hy1 2 _ rfl).2
   have z3 := (hy1 3 _ rfl).2
   obtain ⟨X, hX⟩ : ∃ X, X = (((w3.setCell ⟨B1, 0, none⟩ (.int .i64 ki)).setCell ⟨B1, 1, none⟩ (.string tt)).setCell ⟨B1, 2, none⟩ (.int .i64 vl)).setCell ⟨B1, 3, none⟩ (.int .i64 pl) := ⟨_, rfl⟩
   have hF := ((((hy1.set 0 (.int .i64 ki)).set 1 (.string tt)).set 2 (.int .i64 vl)).set 3 (.int .i64 pl))
   rw [← hX] at hF
   have t0 : Tcs (fun q => q = B1) w3 X := by
    rw [hX]
    exact ((((Tcs.refl (fun q => q = B1) w3).setCell (p := ⟨B1, 0, none⟩) rfl _).setCell (p := ⟨B1, 1, none⟩) rfl _).setCell (p := ⟨B1, 2, none⟩) rfl _).setCell (p := ⟨B1, 3, none⟩) rfl _
   have hP1 : C.P ≠ B1 := fun e => n1 e.symm
   have hb0 : C.B0 ≤ B1 := by have := HTb.out; omega
   have h5 := h3.tcs t0 (fun e => hP1 e) (fun k hk => by rw [hk]; exact hb0)
   have ht : Tcs (fun k => k = C.P) w X := ((HBw.out.tcs (S := fun k => k = C.P)).trans h4).next t0 (fun k hk => by rw [hk]; exact .inr n4)
   have HF : Hid (Go1 C m w s.ad (.agg #[.int .i64 ki, .string tt, .int .i64 vl, .int .i64 pl]) (.returned (.agg #[.int .i64 ki, .string tt, .int .i64 vl, .int .i64 pl])) X) := .inl ⟨h1, rfl, h5, ht⟩
   have v0 := (hF 0 _ rfl).1
   have v1 := (hF 1 _ rfl).1
   have v2 := (hF 2 _ rfl).1
   have v3 := (hF 3 _ rfl).1
   have HXe := hide hX
   clear h1 h3 h4 hy1 hy2 hF t0 h5 ht hX hP1
   go_wp2_with fail
   rw [← HXe.out]
   exact bodyPost_ret (v := .agg #[.int .i64 ki, .string tt, .int .i64 vl, .int .i64 pl]) (by simp [results, Tryz.results127, go_sem, v0, v1, v2, v3]) rfl (.inr ⟨trivial, HF.out⟩)
  ·have HF : Hid (Go1 C m w s.ad (.agg #[.int .i64 ki, .string tt, .int .i64 vl, .int .i64 pl]) e w3) := .inr (hd.later (Dm.refl _) (Kp.of HBw.out))
   obtain ⟨-, rfl, -⟩ := hd
   unfold flt at *
   go_wp2_with fail
   exact ⟨rfl, .inr ⟨trivial, HF.out⟩⟩
 ·have hq' : (ki != k) = true := by simpa using hq
  have HQ := hide hq
  clear hq HA
  go_enter Tryz.func127, Tryz.ntmps127
  go_upto_region 1 with fail
  rw [← HW1.out, ← HB1.out]
  go_upto_region 2 with fail
  rw [← HW2.out, ← HB2.out]
  go_wp2_with fail
  refine HFa.out.mono ?_
  rintro e w3 ⟨rfl, hw⟩
  rw [hw]
  clear hw
  unfold flt at *
  go_wp2_with fail
  exact ⟨rfl, .inl ⟨HQ.out, rfl, HBw.out⟩⟩
theorem fld_tk (kd : Int) (tt : ByteArray) (vl pl : Int) (W : World) : (Instr.field 59 (tkV kd tt vl pl) 1).run Tryz.prog W = .ok (.string tt) W ∧ (Instr.field 59 (tkV kd tt vl pl) 2).run Tryz.prog W = .ok (.int .i64 vl) W := by
 unfold tkV
 exact ⟨by kernel_rfl, by kernel_rfl⟩
set_option maxRecDepth 100000 in
set_option maxHeartbeats 1000000 in
theorem nameI_any {C : RC} {m : TV} {w : World} {s : PS} (HN : NxI C) (h : RSt C m w s) : Calls Tryz.prog 93 #[.pointer (some ⟨C.P, 0, none⟩)] w (Go1 C m w (naS (tokT C.l) s).2 (.string (naS (tokT C.l) s).1)) := by
 obtain ⟨tt, vl, hb, ht, -⟩ := h.bx
 have HT := hide (takeT_any HN h hb 1 (.inl rfl))
 have hnm := nm_is (l := C.l) (s := s) (al_er h.al)
 have HNo : Hid (kiI (tokT C.l s.i) ≠ 1 → ∀ W, Below w.heap.size w W → Go1 C m w (naS (tokT C.l) s).2 (.string (naS (tokT C.l) s).1) (flt (3, ((tokT C.l s.i).pl : Int))) W) := fun hk W hW => by
  rw [decide_eq_false hk] at hnm
  obtain ⟨h1, h2⟩ := na_no h.al hnm
  exact .inr ⟨h1, by rw [h2], Kp.of hW⟩
 have HYe : Hid (kiI (tokT C.l s.i) = 1 → naS (tokT C.l) s = (tt, s.ad)) := fun hk => by
  rw [decide_eq_true hk] at hnm
  show _ = _
  rw [na_yes hnm, ht (.inl hk)]
 have hf := fun W => (fld_tk 1 tt vl ((tokT C.l s.i).pl : Int) W).1
 unfold tkV at HT hf
 generalize ((tokT C.l s.i).pl : Int) = pl at *
 clear h hb ht hnm
 go_enter Tryz.func93, Tryz.ntmps93
 go_wp2_with fail
 refine HT.out.mono ?_
 rintro e w1 (⟨hk, rfl, hw⟩ | ⟨hk, hg⟩)
 ·have HF := hide (HNo.out hk w1 hw)
  clear hw hk
  unfold flt at *
  go_wp2_with fail
  exact ⟨rfl, HF.out⟩
 ·rcases hg with ⟨h1, rfl, h3, h4⟩ | hd
  ·have HF : Hid (Go1 C m w (naS (tokT C.l) s).2 (.string (naS (tokT C.l) s).1) (.returned (.string tt)) w1) := by show Go1 _ _ _ _ _ _ _; rw [HYe.out hk]; exact .inl ⟨h1, rfl, h3, h4⟩
   clear h1 h3 h4 hk HYe HNo
   go_wp2_with fail
   go_ret
   exact HF.out
  ·have HF : Hid (Go1 C m w (naS (tokT C.l) s).2 (.string (naS (tokT C.l) s).1) e w1) := by show Go1 _ _ _ _ _ _ _; rw [HYe.out hk]; exact .inr hd
   obtain ⟨-, rfl, -⟩ := hd
   clear hk HYe HNo
   unfold flt at *
   go_wp2_with fail
   exact ⟨rfl, HF.out⟩
set_option maxRecDepth 100000 in
set_option maxHeartbeats 1000000 in
theorem numI_any {C : RC} {m : TV} {w : World} {s : PS} (HN : NxI C) (h : RSt C m w s) : Calls Tryz.prog 132 #[.pointer (some ⟨C.P, 0, none⟩)] w (Go1 C m w (nuS (tokT C.l) s).2 (.int .i64 (nuS (tokT C.l) s).1)) := by
 obtain ⟨tt, vl, hb, -, hv⟩ := h.bx
 have HT := hide (takeT_any HN h hb 2 (.inr rfl))
 have hki := ki_num (t := tokT C.l s.i) (tokT_kind C.l s.i).1
 have HNo : Hid (kiI (tokT C.l s.i) ≠ 2 → ∀ W, Below w.heap.size w W → Go1 C m w (nuS (tokT C.l) s).2 (.int .i64 (nuS (tokT C.l) s).1) (flt (3, ((tokT C.l s.i).pl : Int))) W) := fun hk W hW => by
  obtain ⟨h1, h2⟩ := nu_no h.al (fun e => hk (hki.2 e))
  exact .inr ⟨h1, by rw [h2], Kp.of hW⟩
 have HYe : Hid (kiI (tokT C.l s.i) = 2 → nuS (tokT C.l) s = (vl, s.ad)) := fun hk => by
  show _ = _
  rw [nu_yes (al_er h.al) (hki.1 hk), hv (hki.1 hk)]
 have hf := fun W => (fld_tk 2 tt vl ((tokT C.l s.i).pl : Int) W).2
 unfold tkV at HT hf
 generalize ((tokT C.l s.i).pl : Int) = pl at *
 clear h hb hv hki
 go_enter Tryz.func132, Tryz.ntmps132
 go_wp2_with fail
 refine HT.out.mono ?_
 rintro e w1 (⟨hk, rfl, hw⟩ | ⟨hk, hg⟩)
 ·have HF := hide (HNo.out hk w1 hw)
  clear hw hk
  unfold flt at *
  go_wp2_with fail
  exact ⟨rfl, HF.out⟩
 ·rcases hg with ⟨h1, rfl, h3, h4⟩ | hd
  ·have HF : Hid (Go1 C m w (nuS (tokT C.l) s).2 (.int .i64 (nuS (tokT C.l) s).1) (.returned (.int .i64 vl)) w1) := by show Go1 _ _ _ _ _ _ _; rw [HYe.out hk]; exact .inl ⟨h1, rfl, h3, h4⟩
   clear h1 h3 h4 hk HYe HNo
   go_wp2_with fail
   go_ret
   exact HF.out
  ·have HF : Hid (Go1 C m w (nuS (tokT C.l) s).2 (.int .i64 (nuS (tokT C.l) s).1) e w1) := by show Go1 _ _ _ _ _ _ _; rw [HYe.out hk]; exact .inr hd
   obtain ⟨-, rfl, -⟩ := hd
   clear hk HYe HNo
   unfold flt at *
   go_wp2_with fail
   exact ⟨rfl, HF.out⟩
end
section
open Go.RowKit
theorem info_binP : (Tryz.prog.info? 218).map (·.size) = some binCs.length := by kernel_rfl
def binV (b : List UInt8 × Int × Int × Int) : Value := .agg #[.string (tx b.1), .int .i64 b.2.1, .int .i64 b.2.2.1, .int .i64 b.2.2.2]
def binR (k : Nat) : List UInt8 × Int × Int × Int := binL.getD k ([], 0, 0, 0)
theorem idx_binP (k : Nat) (hk : k < 18) (W : World) : (Instr.index 218 (.agg binCs.toArray) (.int .i64 (k : Int))).run Tryz.prog W = .ok (binV (binR k)) W := by
 have : k = 0 ∨ k = 1 ∨ k = 2 ∨ k = 3 ∨ k = 4 ∨ k = 5 ∨ k = 6 ∨ k = 7 ∨ k = 8 ∨ k = 9 ∨ k = 10 ∨ k = 11 ∨ k = 12 ∨ k = 13 ∨ k = 14 ∨ k = 15 ∨ k = 16 ∨ k = 17 := by omega
 rcases this with rfl | rfl | rfl | rfl | rfl | rfl | rfl | rfl | rfl | rfl | rfl | rfl | rfl | rfl | rfl | rfl | rfl | rfl <;> (show _ = _; kernel_rfl)
theorem binR_mem {k : Nat} (hk : k < 18) : binR k ∈ binL := by
 unfold binR
 have h : k < binL.length := hk
 simp only [List.getD, List.getElem?_eq_getElem h, Option.getD_some]
 exact List.getElem_mem h
theorem binR_of {b : List UInt8 × Int × Int × Int} (hb : b ∈ binL) : ∃ k, k < 18 ∧ b = binR k := by
 obtain ⟨k, hk, rfl⟩ := List.getElem_of_mem hb
 exact ⟨k, hk, by unfold binR; simp only [List.getD, List.getElem?_eq_getElem hk, Option.getD_some]⟩
def OprA (T : Nat → To) (s : PS) (e : Ending) : Prop := (ifS T s = none ∧ e = .returned (.agg #[.string ⟨#[]⟩, .int .i64 0, .int .i64 0, .int .i64 0])) ∨ ∃ b, b ∈ binL ∧ ifS T s = some (binO b) ∧ e = .returned (binV b)
set_option maxRecDepth 100000 in
set_option maxHeartbeats 2000000 in
theorem operator_any {C : RC} {m : TV} {w : World} {s : PS} (h : RSt C m w s) : Calls Tryz.prog 201 #[.pointer (some ⟨C.P, 0, none⟩)] w fun e w' => OprA (tokT C.l) s e ∧ Below w.heap.size w w' := by
 have hbt : w.rangeAt 7 0 binCs := by obtain ⟨tt, vl, h1, -⟩ := h.bx; exact h1.bt
 obtain ⟨W1, hW1⟩ : ∃ W1, W1 = w.alloc (.cells #[.string ⟨#[]⟩, .int .i64 0, .int .i64 0, .int .i64 0] 206) := ⟨_, rfl⟩
 obtain ⟨B1, hB1⟩ : ∃ B1, B1 = w.heap.size := ⟨_, rfl⟩
 have hb1 : Below w.heap.size w W1 := by rw [hW1]; exact (Below.refl _ _).alloc (Nat.le_refl _) _
 have hx1 : FrC W1 B1 [.string ⟨#[]⟩, .int .i64 0, .int .i64 0, .int .i64 0] := by rw [hW1, hB1]; exact box_fr w #[.string ⟨#[]⟩, .int .i64 0, .int .i64 0, .int .i64 0] _ (by show 4 ≤ 1000; omega)
 have hl1 : B1 < W1.heap.size := World.block_lt_of_cell? _ _ (hx1 0 _ rfl).1
 have HR : Hid (W1.rangeAt 7 0 binCs) := by show World.rangeAt _ _ _ _; rw [hW1]; exact World.rangeAt_alloc hbt _
 have HSe : Hid (∀ W x, Below w.heap.size w W → fixB x = true → ∀ n, Calls Tryz.prog 94 #[.pointer (some ⟨C.P, 0, none⟩), .string (tx x)] (W.drewN n) fun e w' => e = .returned (.bool (isS (tokT C.l) x s)) ∧ w' = W.drewN n) := fun W x hW hx n => sees_any (h.below (⟨hW.1, hW.2, hW.3, hW.4, hW.5⟩ : Below w.heap.size w (W.drewN n))) x hx
 have HW1 := hide hW1
 have HB1 := hide hB1
 have HX1 := hide hx1
 have HBb := hide hb1
 have HLe : Hid (w.heap.size ≤ B1) := Nat.le_of_eq hB1.symm
 clear h hbt hW1 hB1 hx1 hb1
 go_enter Tryz.func201, Tryz.ntmps201
 go_upto_region 1 with fail
 rw [← HW1.out, ← HB1.out]
 go_wp2_with (refine wpList_load_mid rfl 218 _ rfl 7 0 rfl binCs _ HR.out Tryz.underlying218 rfl info_binP ?_)
 generalize hC : binCs.toArray = Cc
 have HC : Hid (binCs.toArray = Cc) := hC
 clear hC
 go_wp2_with fail
 go_loopw [4, 6] (fun bx ix wr => ∃ (k : Nat), k ≤ 18 ∧ ix = .int .i64 k ∧ (∀ j, j < k → isS (tokT C.l) (binR j).1 s = false) ∧ Below w.heap.size w wr ∧ FrC wr B1 [.string ⟨#[]⟩, .int .i64 0, .int .i64 0, .int .i64 0] ∧ B1 < wr.heap.size) (fun _ ix _ => 18 - (RowKit.intOf ix).toNat)
 case atStart => exact ⟨0, by omega, rfl, fun j hj => absurd hj (by omega), HBb.out, HX1.out, hl1⟩
 case round =>
  clear HX1 HBb HW1 HR hl1
  obtain ⟨k, hk, rfl, hno, hBe, hx, hl⟩ := hrel
  have HNo := hide hno
  have HBe := hide hBe
  have HX := hide hx
  by_cases hlt : k < 18
  ·have hidx := idx_binP k hlt
   rw [HC.out] at hidx
   have HM := hide (binR_mem hlt)
   have HFx := hide (bin_fix _ (List.mem_map.2 ⟨_, binR_mem hlt, rfl⟩))
   have HHit := hide (fun h => bin_hit (T := tokT C.l) (s := s) (binR_mem hlt) h)
   have HNn : Hid (isS (tokT C.l) (binR k).1 s = false → ∀ j, j < k + 1 → isS (tokT C.l) (binR j).1 s = false) := fun h j hj => by
    by_cases e : j = k
    ·subst e; exact h
    ·exact HNo.out j (by omega)
   obtain ⟨W2, hW2⟩ : ∃ W2, W2 = wr.alloc (.cells #[.string (tx (binR k).1), .int .i64 (binR k).2.1, .int .i64 (binR k).2.2.1, .int .i64 (binR k).2.2.2] 206) := ⟨_, rfl⟩
   obtain ⟨B2, hB2⟩ : ∃ B2, B2 = wr.heap.size := ⟨_, rfl⟩
   have hb2 : Below wr.heap.size wr W2 := by rw [hW2]; exact (Below.refl _ _).alloc (Nat.le_refl _) _
   have hx2 : FrC W2 B2 [.string (tx (binR k).1), .int .i64 (binR k).2.1, .int .i64 (binR k).2.2.1, .int .i64 (binR k).2.2.2] := by rw [hW2, hB2]; exact box_fr wr #[.string (tx (binR k).1), .int .i64 (binR k).2.1, .int .i64 (binR k).2.2.1, .int .i64 (binR k).2.2.2] _ (by show 4 ≤ 1000; omega)
   have hbw : Below w.heap.size w W2 := hBe.trans (hb2.mono hBe.size)
   have HSs := hide (HSe.out W2 (binR k).1 hbw HFx.out)
   have hx1 := hx.below hb2
   have hne : B2 ≠ B1 := by omega
   unfold binV at hidx
   generalize binR k = bb at *
   obtain ⟨bs, bt, bk, bv⟩ := bb
   dsimp only at *
   have y0 := (hx2 0 _ rfl).1
   have y1 := (hx2 1 _ rfl).1
   have y2 := (hx2 2 _ rfl).1
   have y3 := (hx2 3 _ rfl).1
   have HW2 := hide hW2
   have HB2 := hide hB2
   have HBw := hide hbw
   have HX1 := hide hx1
   have hl2 : B1 < W2.heap.size := Nat.lt_of_lt_of_le hl hb2.size
   have hkc : (k : Int) < 18 := by omega
   cases hi : isS (tokT C.l) bs s with
   | false =>
    have HN2 := hide (HNn.out hi)
    have HS2 : Hid (∀ n, Calls Tryz.prog 94 #[.pointer (some ⟨C.P, 0, none⟩), .string (tx bs)] (W2.drewN n) fun e w' => e = .returned (.bool false) ∧ w' = W2.drewN n) := by rw [hi] at HSs; exact HSs
    clear hno hBe hx hW2 hB2 hb2 hx2 hbw hx1 HNn HHit HSs hi HSe
    go_upto_region 4 with fail
    rw [← HW2.out, ← HB2.out]
    go_quiet ((go_at_call 94; exact Calls.quiet_of_same (HS2.out _)))
    go_wp2_with fail
    go_roundw
    case rel => exact ⟨k + 1, by omega, by go_num, HN2.out, ⟨HBw.out.1, HBw.out.2, HBw.out.3, HBw.out.4, HBw.out.5⟩, HX1.out, hl2⟩
    case measure => simp [RowKit.intOf]; omega
   | true =>
    have HHi := hide (HHit.out hi)
    have HS2 : Hid (∀ n, Calls Tryz.prog 94 #[.pointer (some ⟨C.P, 0, none⟩), .string (tx bs)] (W2.drewN n) fun e w' => e = .returned (.bool true) ∧ w' = W2.drewN n) := by rw [hi] at HSs; exact HSs
    clear hno hBe hx hW2 hB2 hb2 hx2 hbw hx1 HNn HHit HSs hi HSe
    go_upto_region 4 with fail
    rw [← HW2.out, ← HB2.out]
    go_quiet ((go_at_call 94; exact Calls.quiet_of_same (HS2.out _)))
    obtain ⟨W3, hW3⟩ : ∃ W3, W3 = W2.drewN nq := ⟨_, rfl⟩
    have hx3 : FrC W3 B1 [.string ⟨#[]⟩, .int .i64 0, .int .i64 0, .int .i64 0] := by rw [hW3]; exact HX1.out
    have hb3 : Below w.heap.size w W3 := by rw [hW3]; exact ⟨HBw.out.1, HBw.out.2, HBw.out.3, HBw.out.4, HBw.out.5⟩
    have u0 : W3.cell? ⟨B2, 0, none⟩ = some (.string (tx bs)) := by rw [hW3]; exact y0
    have u1 : W3.cell? ⟨B2, 1, none⟩ = some (.int .i64 bt) := by rw [hW3]; exact y1
    have u2 : W3.cell? ⟨B2, 2, none⟩ = some (.int .i64 bk) := by rw [hW3]; exact y2
    have u3 : W3.cell? ⟨B2, 3, none⟩ = some (.int .i64 bv) := by rw [hW3]; exact y3
    obtain ⟨X, hX⟩ : ∃ X, X = (((W3.setCell ⟨B1, 0, none⟩ (.string (tx bs))).setCell ⟨B1, 1, none⟩ (.int .i64 bt)).setCell ⟨B1, 2, none⟩ (.int .i64 bk)).setCell ⟨B1, 3, none⟩ (.int .i64 bv) := ⟨_, rfl⟩
    have hF := ((((hx3.set 0 (.string (tx bs))).set 1 (.int .i64 bt)).set 2 (.int .i64 bk)).set 3 (.int .i64 bv))
    rw [← hX] at hF
    have hbX : Below w.heap.size w X := by
     rw [hX]
     exact (((hb3.setCell (p := ⟨B1, 0, none⟩) HLe.out _).setCell (p := ⟨B1, 1, none⟩) HLe.out _).setCell (p := ⟨B1, 2, none⟩) HLe.out _).setCell (p := ⟨B1, 3, none⟩) HLe.out _
    have z0 := (hx3 0 _ rfl).2
    have z1 := (hx3 1 _ rfl).2
    have z2 := (hx3 2 _ rfl).2
    have z3 := (hx3 3 _ rfl).2
    have g0 := (hx3 0 _ rfl).1
    have g1 := (hx3 1 _ rfl).1
    have g2 := (hx3 2 _ rfl).1
    have g3 := (hx3 3 _ rfl).1
    have v0 := (hF 0 _ rfl).1
    have v1 := (hF 1 _ rfl).1
    have v2 := (hF 2 _ rfl).1
    have v3 := (hF 3 _ rfl).1
    have HXe := hide hX
    have HbX := hide hbX
    have HW3 := hide hW3
    rw [← HW3.out]
    clear hX hF hbX hW3 hx3 hb3 y0 y1 y2 y3
    go_wp2_with fail
    rw [← HXe.out]
    exact bodyPost_ret (v := .agg #[.string (tx bs), .int .i64 bt, .int .i64 bk, .int .i64 bv]) (by simp [results, Tryz.results201, go_sem, v0, v1, v2, v3]) rfl ⟨.inr ⟨_, HM.out, HHi.out, rfl⟩, HbX.out⟩
  ·obtain rfl : k = 18 := by omega
   have HNon : Hid (ifS (tokT C.l) s = none) := bin_none fun b hb => by
    obtain ⟨k, hk, rfl⟩ := binR_of hb
    exact HNo.out k hk
   obtain ⟨X, hX⟩ : ∃ X, X = (((wr.setCell ⟨B1, 0, none⟩ (.string ⟨#[]⟩)).setCell ⟨B1, 1, none⟩ (.int .i64 0)).setCell ⟨B1, 2, none⟩ (.int .i64 0)).setCell ⟨B1, 3, none⟩ (.int .i64 0) := ⟨_, rfl⟩
   have hF := ((((hx.set 0 (.string ⟨#[]⟩)).set 1 (.int .i64 0)).set 2 (.int .i64 0)).set 3 (.int .i64 0))
   rw [← hX] at hF
   have hbX : Below w.heap.size w X := by
    rw [hX]
    exact (((hBe.setCell (p := ⟨B1, 0, none⟩) HLe.out _).setCell (p := ⟨B1, 1, none⟩) HLe.out _).setCell (p := ⟨B1, 2, none⟩) HLe.out _).setCell (p := ⟨B1, 3, none⟩) HLe.out _
   have z0 := (hx 0 _ rfl).2
   have z1 := (hx 1 _ rfl).2
   have z2 := (hx 2 _ rfl).2
   have z3 := (hx 3 _ rfl).2
   have g0 := (hx 0 _ rfl).1
   have g1 := (hx 1 _ rfl).1
   have g2 := (hx 2 _ rfl).1
   have g3 := (hx 3 _ rfl).1
   have v0 := (hF 0 _ rfl).1
   have v1 := (hF 1 _ rfl).1
   have v2 := (hF 2 _ rfl).1
   have v3 := (hF 3 _ rfl).1
   have HXe := hide hX
   have HbX := hide hbX
   clear hX hF hbX hno hBe hx HSe
   go_wp2_with fail
   rw [← HXe.out]
   exact bodyPost_ret (v := .agg #[.string ⟨#[]⟩, .int .i64 0, .int .i64 0, .int .i64 0]) (by simp [results, Tryz.results201, go_sem, v0, v1, v2, v3]) rfl ⟨.inl ⟨HNon.out, rfl⟩, HbX.out⟩
end
end Go.Proofs.YtlamjfhhefcohaaGreatDoor
