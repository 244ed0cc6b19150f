import Derived.Test.YtlamjfhhefcohaaGreatDoorM49
import Derived.Test.YtlamjfhhefcohaaGreatDoorM34
import Derived.Tactics2
import Derived.Defers
import Derived.Recover
import Derived.Laws.Pointers
namespace Go.Proofs.YtlamjfhhefcohaaGreatDoor
set_option linter.unusedVariables false
set_option linter.unusedSimpArgs false
set_option maxRecDepth 100000
set_option maxHeartbeats 16000000
section
open Go.RowKit
theorem tas_yes (a b : Int) (W : World) : (Instr.typeAssert (.iface 65 (.agg #[.int .i64 a, .int .i64 b])) 20 65 true).run Tryz.prog W = .ok (.tuple #[.agg #[.int .i64 a, .int .i64 b], .bool true]) W := by kernel_rfl
theorem tas_nil (W : World) : (Instr.typeAssert .nilIface 20 65 true).run Tryz.prog W = .ok (.tuple #[.agg #[.int .i64 0, .int .i64 0], .bool false]) W := by kernel_rfl
set_option maxRecDepth 100000 in
set_option maxHeartbeats 2000000 in
theorem catch_panicking (R : Nat) (x y a b : Int) (w : World) (h0 : w.cell? ⟨R, 0, none⟩ = some (.int .i64 x) ∧ w.frozen? ⟨R, 0, none⟩ = false) (h1 : w.cell? ⟨R, 1, none⟩ = some (.int .i64 y) ∧ w.frozen? ⟨R, 1, none⟩ = false) (hR : R < w.heap.size) :
  CallsD Tryz.prog 57 #[.pointer (some ⟨R, 0, none⟩)] (.panicking [{ v := .iface 65 (.agg #[.int .i64 a, .int .i64 b]), recovered := false }]) w fun e u' w' =>
   e = .returned (.tuple #[]) ∧ u' = .panicking [{ v := .iface 65 (.agg #[.int .i64 a, .int .i64 b]), recovered := true }] ∧ w'.cell? ⟨R, 0, none⟩ = some (.int .i64 a) ∧ w'.cell? ⟨R, 1, none⟩ = some (.int .i64 b) ∧ Tcs (fun k => k = R) w w' := by
 obtain ⟨h00, h01⟩ := h0
 obtain ⟨h10, h11⟩ := h1
 refine callsD_of_wpS Tryz.func57 rfl fun c₀ cs hu => ?_
 apply wpS_seq
 apply wpS_region
 simp [wpOpsS, go_sem, recoverD, hu, Tryz.ntmps57, Exit.thenS, tas_yes]
 obtain ⟨W1, eW1⟩ : ∃ W1, W1 = w.alloc (.cells #[.int .i64 a, .int .i64 b] 65) := ⟨_, rfl⟩
 obtain ⟨N, eN⟩ : ∃ N, N = w.heap.size := ⟨_, rfl⟩
 have hb : Below w.heap.size w W1 := by rw [eW1]; exact (Below.refl _ _).alloc (Nat.le_refl _) _
 have hx : FrC W1 N [.int .i64 a, .int .i64 b] := by rw [eW1, eN]; exact box_fr w #[.int .i64 a, .int .i64 b] _ (by show 2 ≤ 1000; omega)
 have hy : FrC W1 R [.int .i64 x, .int .i64 y] := FrC.below (w := w) (fun j v hv => by
  match j, hv with
  | 0, hv => cases hv; exact ⟨h00, h01⟩
  | 1, hv => cases hv; exact ⟨h10, h11⟩
  | j + 2, hv => simp at hv) hb
 have n0 := hx 0 _ rfl
 have n1 := hx 1 _ rfl
 have r0 := hy 0 _ rfl
 have r1 := hy 1 _ rfl
 have hNR : ¬ N = R := by omega
 have tt : Tcs (fun k => k = R) w ((W1.setCell ⟨R, 0, none⟩ (.int .i64 a)).setCell ⟨R, 1, none⟩ (.int .i64 b)) := ((hb.tcs (S := fun k => k = R)).setCell (p := ⟨R, 0, none⟩) rfl _).setCell (p := ⟨R, 1, none⟩) rfl _
 rw [← eW1, ← eN]
 apply wpS_seq
 apply wpS_region
 simp [wpOpsS, go_sem, Exit.thenS]
 refine wpS_cond (t := true) (by simp [Act.eval, Array.replicate]) ?_
 simp only [if_true]
 apply wpS_region
 simp [wpOpsS, go_sem, n0, n1, r0, r1, bodyPostS, results, Tryz.results57, tt]
set_option maxRecDepth 100000 in
set_option maxHeartbeats 2000000 in
theorem catch_idle (R : Nat) (w : World) :
  CallsD Tryz.prog 57 #[.pointer (some ⟨R, 0, none⟩)] .returning w fun e u' w' => e = .returned (.tuple #[]) ∧ u' = .returning ∧ Below w.heap.size w w' := by
 refine callsD_of_wpS Tryz.func57 rfl fun c₀ cs hu => ?_
 apply wpS_seq
 apply wpS_region
 simp [wpOpsS, go_sem, recoverD, hu, Tryz.ntmps57, Exit.thenS, tas_nil]
 apply wpS_seq
 apply wpS_region
 simp [wpOpsS, go_sem, Exit.thenS]
 refine wpS_cond (t := false) (by simp [Act.eval, Array.replicate]) ?_
 simp only [Bool.false_eq_true, if_false]
 refine wpS_of_wp (wp_skip ?_)
 cases c₀
 have hb : Below w.heap.size w (w.alloc (.cells #[.int .i64 0, .int .i64 0] 65)) := (Below.refl _ _).alloc (Nat.le_refl _) _
 simp_all [bodyPostS, results, Tryz.results57]
def ParA (C : RC) (B : Nat) (w : World) (t' : Tr) (s' : PS) (e : Ending) (w' : World) : Prop :=
 (¬ dmS (tokT C.l) s' ∧ e = .returned (.agg #[.int .i64 0, .int .i64 0]) ∧ (∃ m', RSt C m' w' s' ∧ TrI B w' m' t') ∧ Below C.B0 w w') ∨
 (dmS (tokT C.l) s' ∧ e = .returned (.agg #[.int .i64 (fvS (tokT C.l) s').1, .int .i64 (fvS (tokT C.l) s').2]) ∧ Below C.B0 w w')
set_option maxRecDepth 100000 in
set_option maxHeartbeats 2000000 in
theorem parseI_any {C : RC} (HN : NxI C) {n : Nat} (hn : n ≤ 1000000) {w : World} {k : Nat} {t' : Tr} {s' : PS} {kd : Int} {tt : ByteArray} {vl pl : Int} (hC : COk C) (hP : C.P + 1 = w.heap.size) (hb : ∀ W, Below w.heap.size w W → C.P + 1 < W.heap.size → RBx C W (endT C.l 0 : Int) kd tt vl pl ⟨.slice none 0 0, .slice none 0 0, false⟩ 0) (hp : PgL (tokT C.l) n k s00 t00 t' s') (hsm : smT C.K 0 t') (hK : C.K ≤ 20000) :
  Calls Tryz.prog 25 #[.pointer (some ⟨C.P, 0, none⟩)] w (ParA C (w.heap.size + 1) w t' s') := by
 obtain ⟨W1, eW1⟩ : ∃ W1, W1 = w.alloc (.cells #[.int .i64 0, .int .i64 0] 65) := ⟨_, rfl⟩
 obtain ⟨R, eR⟩ : ∃ R, R = w.heap.size := ⟨_, rfl⟩
 have hb1 : Below w.heap.size w W1 := by rw [eW1]; exact (Below.refl _ _).alloc (Nat.le_refl _) _
 have hx1 : FrC W1 R [.int .i64 0, .int .i64 0] := by rw [eW1, eR]; exact box_fr w #[.int .i64 0, .int .i64 0] _ (by show 2 ≤ 1000; omega)
 have hs1 : W1.heap.size = w.heap.size + 1 := by rw [eW1]; simp
 have hR1 : R < W1.heap.size := by omega
 have HNe : Hid (Calls Tryz.prog 58 #[.pointer (some ⟨C.P, 0, none⟩)] W1 (Go1 C ⟨.slice none 0 0, .slice none 0 0, false⟩ W1 s00 (.tuple #[]))) := (HN W1 0 kd tt vl pl _ 0 hC (hb W1 hb1 (by omega)) (Nat.zero_le _) (by omega)).mono fun e w' hz => hz s00 rfl rfl rfl
 have HPg : Hid (∀ m W, RSt C m W s00 → TrI (R + 1) W m t00 → R + 1 ≤ W.heap.size → Calls Tryz.prog 59 #[.pointer (some ⟨C.P, 0, none⟩)] W (PgI C (R + 1) W t' s')) := fun m W h1 h2 h3 => progI_any HN hn hp hsm hK h1 h2 (by omega) h3
 have hhi := hC.hi
 have hBw : C.B0 ≤ W1.heap.size := by omega
 have HRP : Hid (R = C.P + 1) := by show R = C.P + 1; omega
 -- what stays of the fault's cell, and what is told at the end by a fault
 have HFr : Hid (∀ W, Kp C W1 W → FrC W R [.int .i64 0, .int .i64 0]) := fun W h => hx1.tcs hR1 h (fun e => e.2 HRP.out)
 have HDie : Hid (∀ W z W', dmS (tokT C.l) z → Dm (tokT C.l) z s' → Kp C W1 W → Tcs (fun k => k = R) W W' → ParA C (R + 1) w t' s' (.returned (.agg #[.int .i64 (fvS (tokT C.l) z).1, .int .i64 (fvS (tokT C.l) z).2])) W') := fun W z W' hd hm hk ht => by
  obtain ⟨d1, d2⟩ := hm hd
  refine .inr ⟨d1, by rw [d2], ?_⟩
  have h1 : Below C.B0 w W := (hb1.mono (by omega)).trans (hk.low hBw)
  exact ht.below h1 (Nat.le_trans hBw (Tcs.size hk)) (fun k hk => by rw [hk, HRP.out]; omega)
 have HLv : Hid (∀ m W W', RSt C m W s' → TrI (R + 1) W m t' → Kp C W1 W → Tcs (fun k => k = R) W W' → ParA C (R + 1) w t' s' (.returned (.agg #[.int .i64 0, .int .i64 0])) W') := fun m W W' h1 h2 hk ht => by
  refine .inl ⟨h1.al, rfl, ⟨m, h1.tcs ht (fun e => by have := HRP.out; omega) (fun k hk => by rw [hk, HRP.out]; omega), ?_⟩, ?_⟩
  ·exact h2.tcs ht (fun k hk => by omega)
  ·have h1 : Below C.B0 w W := (hb1.mono (by omega)).trans (hk.low hBw)
   exact ht.below h1 (Nat.le_trans hBw (Tcs.size hk)) (fun k hk => by rw [hk, HRP.out]; omega)
 have HDm : Hid (Dm (tokT C.l) s00 s') := hp.pg.dm
 have HKp : Hid (∀ W, Tcs (fun k => k = C.P) W1 W → Kp C W1 W) := fun W h => Tcs.mono h (fun k hk => by rw [hk]; exact ⟨hhi, by omega⟩)
 have HK2 : Hid (∀ W W', Kp C W1 W → Tcs (fun k => k = C.P ∨ R + 1 ≤ k) W W' → Kp C W1 W') := fun W W' h1 h2 => Kp.trans h1 (Tcs.mono h2 (fun k hk => by have := HRP.out; omega))
 have hmf : ∀ (fn : Fn) (first cap : Array Value) (w : World), (Instr.makeFunc fn first cap).run Tryz.prog w = .ok (.func fn first cap) w := fun _ _ _ _ => rfl
 have HS1 : Hid (R + 1 ≤ W1.heap.size) := by show R + 1 ≤ _; omega
 have HW1 := hide eW1
 have HR := hide eR
 clear hb hp hsm hK HN hC hb1 hx1 eW1 eR hR1 hs1 hhi hBw hP
 go_enter_defers Tryz.func25, Tryz.ntmps25
 go_upto_region 2 with fail
 rw [← HW1.out, ← HR.out]
 go_wp2_with fail
 refine HNe.out.mono (fun e w2 hg => ?_)
 rcases hg.symm with hd | ⟨-, rfl, z2, t2⟩
 ·obtain ⟨d1, rfl, d3⟩ := hd
  have hf := HFr.out w2 d3
  have HF := hide (fun W' ht => HDie.out w2 s00 W' d1 HDm.out d3 ht)
  unfold flt at *
  generalize (fvS (tokT C.l) s00).1 = f1 at *
  generalize (fvS (tokT C.l) s00).2 = f2 at *
  clear d1 d3
  go_wp2_with fail
  refine leaves_cons (f := 57) (args := #[.pointer (some ⟨R, 0, none⟩)]) (by simp) (by simp [go_sem]) ?_
  refine (catch_panicking R 0 0 f1 f2 _ (hf 0 _ rfl) (hf 1 _ rfl) (World.block_lt_of_cell? _ _ (hf 0 _ rfl).1)).mono ?_
  rintro e u' w3 ⟨rfl, rfl, c0, c1, t3⟩
  have hF := HF.out w3 t3
  simp [Leaves, settle, results, Tryz.results25, go_sem, c0, c1]
  first | exact hF | (rw [← HR.out]; exact hF)
 ·have hk2 := HKp.out w2 t2
  have HC2 := hide (HPg.out _ w2 z2 (tri_nil _ _) (Nat.le_trans HS1.out t2.size))
  clear z2 t2
  go_wp2_with fail
  refine HC2.out.mono (fun e w3 hg => ?_)
  rcases hg.symm with hd | ⟨-, m', rfl, st3, tr3, t3⟩
  ·obtain ⟨d1, rfl, d3⟩ := hd
   have hk3 := hk2.trans d3
   have hf := HFr.out w3 hk3
   have HF := hide (fun W' ht => HDie.out w3 s' W' d1 (Dm.refl _) hk3 ht)
   unfold flt at *
   generalize (fvS (tokT C.l) s').1 = f1 at *
   generalize (fvS (tokT C.l) s').2 = f2 at *
   clear d1 d3 hk3 hk2
   go_wp2_with fail
   refine leaves_cons (f := 57) (args := #[.pointer (some ⟨R, 0, none⟩)]) (by simp) (by simp [go_sem]) ?_
   refine (catch_panicking R 0 0 f1 f2 _ (hf 0 _ rfl) (hf 1 _ rfl) (World.block_lt_of_cell? _ _ (hf 0 _ rfl).1)).mono ?_
   rintro e u' w4 ⟨rfl, rfl, c0, c1, t4⟩
   have hF := HF.out w4 t4
   simp [Leaves, settle, results, Tryz.results25, go_sem, c0, c1]
   first | exact hF | (rw [← HR.out]; exact hF)
  ·have hk3 := HK2.out w2 w3 hk2 t3
   have hf := HFr.out w3 hk3
   have r0 := hf 0 _ rfl
   have r1 := hf 1 _ rfl
   have HF := hide (fun W' ht => HLv.out m' w3 W' st3 tr3 hk3 ht)
   have hf5 : FrC ((w3.setCell ⟨R, 0, none⟩ (.int .i64 0)).setCell ⟨R, 1, none⟩ (.int .i64 0)) R [.int .i64 0, .int .i64 0] := (hf.set 0 (.int .i64 0)).set 1 (.int .i64 0)
   have t5 : Tcs (fun k => k = R) w3 ((w3.setCell ⟨R, 0, none⟩ (.int .i64 0)).setCell ⟨R, 1, none⟩ (.int .i64 0)) := ((Tcs.refl (fun k => k = R) w3).setCell (p := ⟨R, 0, none⟩) rfl _).setCell (p := ⟨R, 1, none⟩) rfl _
   have H5 := hide (And.intro hf5 t5)
   clear st3 tr3 t3 hk2 hk3 hf HC2 hf5 t5
   go_wp2_with fail
   refine leaves_cons (f := 57) (args := #[.pointer (some ⟨R, 0, none⟩)]) (by simp) (by simp [go_sem]) ?_
   refine (catch_idle R _).mono ?_
   rintro e u' w4 ⟨rfl, rfl, b4⟩
   have hF := HF.out w4 (H5.out.2.of_below b4)
   have c0 := (H5.out.1.below b4 0 _ rfl).1
   have c1 := (H5.out.1.below b4 1 _ rfl).1
   simp [Leaves, settle, results, Tryz.results25, go_sem, c0, c1]
   first | exact hF | (rw [← HR.out]; exact hF)
end
section
open Go.RowKit
def PcI (r : Int × Int × Tr) (w : World) (e : Ending) (w' : World) : Prop := ∃ vg vf Q, e = .returned (.agg #[.int .i64 r.1, .int .i64 r.2.1, vg, vf]) ∧ TreeOwn w.heap.size w' vg vf r.2.2 Q ∧ Below w.heap.size w w'
theorem TreeOwn.base {B B' : Nat} {w : World} {vg vf : Value} {t : Tr} {Q : List FV} (h : TreeOwn B w vg vf t Q) (hb : B' ≤ B) : TreeOwn B' w vg vf t Q := ⟨own_base h.gs hb, h.fs.base hb, h.map, h.sep⟩
theorem treeB_nz {t : Tr} (h : ∃ g ∈ t.globals, g.size = -1) : treeB t = false := by
 obtain ⟨g, hg, e⟩ := h
 have : t.globals.all globB = false := by
  rw [List.all_eq_false]
  refine ⟨g, hg, ?_⟩
  unfold globB
  rw [e]
  simp
 unfold treeB
 rw [this]
 simp
theorem globsG {B : Nat} {w : World} {v : Value} {gs : List Gl} {K : List Nat} (h : ROne B w v gs.length (flatG gs) K) : Globs w v gs := by
 have e : flatG gs = gflat gs := rfl
 rw [e] at h
 rcases h with ⟨h0, -, a, c, rfl, hc⟩ | ⟨g, cap, rfl, -, h3, h4, -, -, h7⟩
 ·exact ⟨a, c, by rw [h0], by omega, hc, fun hp => absurd hp (by omega)⟩
 ·refine ⟨_, cap, rfl, h3, h4, fun _ => ⟨g, 0, rfl, fun j hj => ?_⟩⟩
  have key : ∀ i (hi : i < 2), w.cell? ⟨g, 0 + j * 2 + i, none⟩ = (gcl gs[j])[i]? := fun i hi => by
   have e := gflat_get gs j i hj hi
   have hl : i < (gcl gs[j]).length := hi
   rw [List.getElem?_eq_getElem hl] at e ⊢
   rw [Nat.zero_add]
   exact (h7 _ _ e).1
  exact ⟨key 0 (by omega), key 1 (by omega)⟩
theorem rn_dm {T : Nat → To} {n k : Nat} {s t t' s'} (h : PgL T n k s t t' s') : dmS T s' ↔ s'.er ≠ 0 := by
 have := h.pg.end4
 unfold dmS
 constructor
 ·rintro (h1 | h1)
  ·exact h1
  ·rcases this with h2 | h2
   ·exact h2
   ·rw [h1] at h2; cases h2
 ·exact fun h => .inl h
set_option maxRecDepth 100000 in
set_option maxHeartbeats 4000000 in
theorem parsI_big (w : World) (b c : Nat) (l : List UInt8) (hl : 20000 < l.length) (hm : l.length ≤ 9223372036854775807) :
  Calls Tryz.prog 8 #[.slice (some ⟨b, 0, none⟩) l.length c] w (PcI (1, 0, t00) w) := by
 go_enter Tryz.func8, Tryz.ntmps8
 go_wp2_with fail
 refine bodyPost_ret (v := .agg #[.int .i64 1, .int .i64 0, .slice none 0 0, .slice none 0 0]) (by simp [results, Tryz.results8, go_sem]) rfl ⟨_, _, [], rfl, TreeOwn.nil _ _, ?_⟩
 first | exact (Below.refl _ _).alloc (Nat.le_refl _) _ | exact (((((Below.refl _ _).alloc (Nat.le_refl _) _).setCell (Nat.le_refl _) _).setCell (Nat.le_refl _) _).setCell (Nat.le_refl _) _).setCell (Nat.le_refl _) _
set_option maxRecDepth 100000 in
set_option maxHeartbeats 4000000 in
theorem parsI_any (w : World) (b c : Nat) (l : List UInt8) (hT : Txt w b l) (hb : b < w.heap.size) (hl : l.length ≤ 20000) (hc : l.length ≤ c) (hbt : w.rangeAt 7 0 binCs) (her : Erv w) (hTab : Tab w) (hgb : 7 < w.heap.size) {K k : Nat} {t : Tr} {s : PS} (hR : Rn l (tokT l) K k t s) :
  Calls Tryz.prog 8 #[.slice (some ⟨b, 0, none⟩) l.length c] w (PcI (ansR l t s) w) := by
 obtain ⟨W1, eW1⟩ : ∃ W1, W1 = w.alloc (.cells #[.int .i64 0, .int .i64 0, .slice none 0 0, .slice none 0 0] 28) := ⟨_, rfl⟩
 obtain ⟨R, eR⟩ : ∃ R, R = w.heap.size := ⟨_, rfl⟩
 obtain ⟨P, eP⟩ : ∃ P, P = w.heap.size + 1 := ⟨_, rfl⟩
 obtain ⟨W2, eW2⟩ : ∃ W2, W2 = W1.alloc (.cells #[.slice (some ⟨b, 0, none⟩) l.length c, .int .i64 0, .int .i64 0, .string ⟨#[]⟩, .int .i64 0, .int .i64 0, .slice none 0 0, .slice none 0 0, .int .i64 0, .bool false] 63) := ⟨_, rfl⟩
 have hb1 : Below w.heap.size w W1 := by rw [eW1]; exact (Below.refl _ _).alloc (Nat.le_refl _) _
 have hb2 : Below W1.heap.size W1 W2 := by rw [eW2]; exact (Below.refl _ _).alloc (Nat.le_refl _) _
 have s1 : W1.heap.size = w.heap.size + 1 := by rw [eW1]; simp
 have s2 : W2.heap.size = W1.heap.size + 1 := by rw [eW2]; simp
 have hx1 : FrC W1 R [.int .i64 0, .int .i64 0, .slice none 0 0, .slice none 0 0] := by rw [eW1, eR]; exact box_fr w #[.int .i64 0, .int .i64 0, .slice none 0 0, .slice none 0 0] _ (by show 4 ≤ 1000; omega)
 obtain ⟨C, eC⟩ : ∃ C : RC, C = ⟨P, b, c, P, K, l⟩ := ⟨_, rfl⟩
 have hx2 : FrC W2 P (C.box 0 0 ⟨#[]⟩ 0 0 ⟨.slice none 0 0, .slice none 0 0, false⟩ 0) := by
  have e : P = W1.heap.size := by omega
  rw [eC, eW2, e]
  exact box_fr W1 #[.slice (some ⟨b, 0, none⟩) l.length c, .int .i64 0, .int .i64 0, .string ⟨#[]⟩, .int .i64 0, .int .i64 0, .slice none 0 0, .slice none 0 0, .int .i64 0, .bool false] _ (by show 10 ≤ 1000; omega)
 have hger : 4 < w.heap.size := by obtain ⟨ev, h1, -⟩ := her; exact World.block_lt_of_cell? _ _ h1
 have hC : COk C := by rw [eC]; exact ⟨by show b < P; omega, Nat.le_refl _, by show _ < P; omega, by show _ < P; omega, hl, hc, hR.las⟩
 have hbw : Below w.heap.size w W2 := hb1.trans (hb2.mono (by omega))
 have hRB : ∀ W, Below W2.heap.size W2 W → C.P + 1 < W.heap.size → RBx C W (endT C.l 0 : Int) 0 ⟨#[]⟩ 0 0 ⟨.slice none 0 0, .slice none 0 0, false⟩ 0 := fun W hW hs => by
  have hw : Below w.heap.size w W := hbw.trans (hW.mono (by omega))
  subst eC
  exact ⟨hx2.below hW, hT.below hw hb, fun j v hv => (World.cell?_of_block (a := ⟨7, 0 + j, none⟩) (hw.block 7 hgb)).trans (hbt j v hv), her.tcs (S := fun _ => False) hw.tcs (fun h => h), hs⟩
 have HPa : Hid (Calls Tryz.prog 25 #[.pointer (some ⟨P, 0, none⟩)] W2 (ParA C (W2.heap.size + 1) W2 t s)) := by
  have hK : K ≤ 20000 := by have := hR.kl; omega
  subst eC
  exact parseI_any (C := ⟨P, b, c, P, K, l⟩) next_any (n := 20 * K + 40) (by omega) hC (by show P + 1 = _; omega) hRB hR.pg hR.sm hK
 have hCB : C.B0 = P ∧ C.P = P ∧ C.l = l := by rw [eC]; exact ⟨rfl, rfl, rfl⟩
 have HI := hide (And.intro hbw (And.intro (hx1.below hb2) (And.intro hTab (And.intro hCB hR))))
 have HSz := hide (And.intro s1 (And.intro s2 (And.intro eR eP)))
 have HW1 := hide eW1
 have HW2 := hide eW2
 have HR := hide eR
 have HP := hide eP
 clear eW1 eW2 eR eP eC hb1 hb2 s1 s2 hx1 hx2 hger hC hbw hRB hT hb her hTab hgb hbt hR hCB
 go_enter Tryz.func8, Tryz.ntmps8
 go_upto_region 4 with fail
 rw [← HW1.out, ← HP.out, ← HR.out, ← HW2.out]
 go_wp2_with fail
 refine HPa.out.mono (fun e w3 hg => ?_)
 have hI := HI.out
 obtain ⟨hbw, hxR, hTab, ⟨hCb, hCP, hCl⟩, hRn⟩ := hI
 have hsz := HSz.out
 have hdm := rn_dm hRn.pg
 rw [← hCl] at hdm
 have hbb : Below P W2 w3 := by
  rcases hg with ⟨-, -, -, h⟩ | ⟨-, -, h⟩
  ·rw [hCb] at h; exact h
  ·rw [hCb] at h; exact h
 have hb3 : Below w.heap.size w w3 := hbw.trans (hbb.mono (by omega))
 have hx3 : FrC w3 R [.int .i64 0, .int .i64 0, .slice none 0 0, .slice none 0 0] := hxR.keep (hbb.block R (by omega))
 have hs3 := hbb.size
 have hT3 : Tab w3 := hTab.below hTab.size hb3
 -- what the answer is when it is written
 have HAns : Hid (∀ (W X : World) (x y : Int) (vg vf : Value) (tt : Tr) (Q : List FV), Below w3.heap.size w3 W → Tcs (fun k => k = R) W X → TreeOwn (W2.heap.size + 1) W vg vf tt Q → (x, y, tt) = ansR l t s → PcI (ansR l t s) w (.returned (.agg #[.int .i64 x, .int .i64 y, vg, vf])) X) := fun W X x y vg vf tt Q h1 h2 h3 h4 => by
  rw [← h4]
  refine ⟨vg, vf, Q, rfl, (h3.tcs h2 (fun k hk => by omega)).base (by omega), ?_⟩
  have h5 : Below w.heap.size w W := hb3.trans (h1.mono (by have := hb3.size; omega))
  exact h2.below h5 h5.size (fun k hk => by omega)
 rcases hg with ⟨hal, rfl, ⟨m', st, tr⟩, -⟩ | ⟨hd, rfl, -⟩
 ·have hs0 : s.er = 0 := by
   by_cases h : s.er = 0
   ·exact h
   ·exact absurd (hdm.2 h) hal
  obtain ⟨W4, eW4⟩ : ∃ W4, W4 = w3.alloc (.cells #[.int .i64 0, .int .i64 0] 65) := ⟨_, rfl⟩
  obtain ⟨F, eF⟩ : ∃ F, F = w3.heap.size := ⟨_, rfl⟩
  have hb4 : Below w3.heap.size w3 W4 := by rw [eW4]; exact (Below.refl _ _).alloc (Nat.le_refl _) _
  have hx4 : FrC W4 F [.int .i64 0, .int .i64 0] := by rw [eW4, eF]; exact box_fr w3 #[.int .i64 0, .int .i64 0] _ (by show 2 ≤ 1000; omega)
  have st4 := st.below hb4
  have hxR4 := hx3.below hb4
  obtain ⟨t1, Q, hJ⟩ := tr.tcs (S := fun _ => False) hb4.tcs (fun k h => h.elim)
  have p9 := st4.q.2.2
  have p6 := st4.q.1
  have p7 := st4.q.2.1
  rw [hCP] at p9 p6 p7
  obtain ⟨ga, gc, hge, -⟩ := own_shape hJ.own.gs
  obtain ⟨fa, fc, hfe⟩ := hJ.own.fs.shape
  obtain ⟨vg, vf, nz⟩ := m'
  dsimp only at p9 p6 p7 hge hfe
  obtain ⟨gn, hgn⟩ : ∃ gn, gn = t1.globals.length := ⟨_, rfl⟩
  obtain ⟨fn, hfn⟩ : ∃ fn, fn = Q.length := ⟨_, rfl⟩
  rw [← hgn] at hge
  rw [← hfn] at hfe
  subst hge hfe
  have HJ := hide hJ
  have HB4 := hide hb4
  have HT4 : Hid (Tab W4) := hT3.below hT3.size hb4
  have HS0 := hide hs0
  have f0 := hx4 0 _ rfl
  have f1 := hx4 1 _ rfl
  have HW4 := hide eW4
  have HF := hide eF
  have HRn := hide hRn
  have hPR : P ≠ R := by omega
  cases nz
  ·have hgl : t1.globals = t.globals := hJ.eq rfl
   have hfu := hJ.fu
   have ht : t1 = t := by cases t1; cases t; simp only at hgl hfu; rw [hgl, hfu]
   subst ht
   have hsm := hRn.sm.small (by have := hRn.kl; omega)
   have hrd : Globs W4 (.slice ga gn gc) t1.globals ∧ Funcs W4 (.slice fa fn fc) t1.funcs := by
    obtain ⟨Kg, k1, -⟩ := ROne.of_own hJ.own.gs
    refine ⟨?_, ?_⟩
    ·exact globsG k1
    ·have := hJ.own.fs.funcs
     rw [hJ.own.map] at this
     exact this
   have HV : Hid (Calls Tryz.prog 19 #[.agg #[.slice ga gn gc, .slice fa fn fc]] W4 fun e w' => e = .returned (.bool (treeB t1)) ∧ Below W4.heap.size W4 w') := vtree_any t1 _ _ W4 HT4.out hsm hrd.1 hrd.2
   have HXr := hide hxR4
   have HX4 := hide st4
   clear hxR4 hx4 eW4 eF st4 hb4 st tr hJ hdm hbb hb3 hx3 hs3 hT3 hsz hbw hxR hTab hRn hrd hsm hgl hfu hgn hfn hal hs0
   go_upto_region 5 with fail
   rw [← HW4.out, ← HF.out]
   go_wp2_with fail
   refine HV.out.mono ?_
   rintro e w5 ⟨rfl, b5⟩
   have hr5 := HXr.out.below b5
   have r0 := hr5 0 _ rfl
   have r1 := hr5 1 _ rfl
   have r2 := hr5 2 _ rfl
   have r3 := hr5 3 _ rfl
   have st5 := HX4.out.below b5
   have q6 := st5.q.1
   have q7 := st5.q.2.1
   rw [hCP] at q6 q7
   dsimp only at q6 q7
   have hb5 := HB4.out.trans (b5.mono HB4.out.size)
   have hJ5 := HJ.out.own.tcs (S := fun _ => False) b5.tcs (fun k h => h.elim)
   cases hv : treeB t1
   ·have HE : Hid (∀ X, Tcs (fun k => k = R) w5 X → PcI (ansR l t1 s) w (.returned (.agg #[.int .i64 5, .int .i64 (l.length : Int), .slice none 0 0, .slice none 0 0])) X) := fun X hX => HAns.out w5 X 5 _ _ _ t00 [] hb5 hX (TreeOwn.nil _ _) (by unfold ansR; rw [if_neg (by simp [HS0.out]), if_neg (by simp [hv])])
    clear hr5 st5 b5 hb5 hJ5 p6 p7 p9 f0 f1
    go_wp2_with fail
    refine bodyPost_ret (v := .agg #[.int .i64 5, .int .i64 (l.length : Int), .slice none 0 0, .slice none 0 0]) (by simp [results, Tryz.results8, go_sem, r0, r1, r2, r3]) rfl (HE.out _ (((((Tcs.refl (fun k => k = R) w5).setCell (p := ⟨R, 0, none⟩) rfl _).setCell (p := ⟨R, 1, none⟩) rfl _).setCell (p := ⟨R, 2, none⟩) rfl _).setCell (p := ⟨R, 3, none⟩) rfl _))
   ·have HE : Hid (∀ X, Tcs (fun k => k = R) w5 X → PcI (ansR l t1 s) w (.returned (.agg #[.int .i64 0, .int .i64 0, .slice ga gn gc, .slice fa fn fc])) X) := fun X hX => HAns.out w5 X 0 0 _ _ t1 Q hb5 hX hJ5 (by unfold ansR; rw [if_neg (by simp [HS0.out]), if_pos hv])
    clear hr5 st5 b5 hb5 hJ5 p6 p7 p9 f0 f1
    go_wp2_with fail
    refine bodyPost_ret (v := .agg #[.int .i64 0, .int .i64 0, .slice ga gn gc, .slice fa fn fc]) (by simp [results, Tryz.results8, go_sem, r0, r1, r2, r3]) rfl (HE.out _ (((((Tcs.refl (fun k => k = R) w5).setCell (p := ⟨R, 0, none⟩) rfl _).setCell (p := ⟨R, 1, none⟩) rfl _).setCell (p := ⟨R, 2, none⟩) rfl _).setCell (p := ⟨R, 3, none⟩) rfl _))
  ·have hv : treeB t = false := treeB_nz (hJ.bad rfl)
   have r0 := hxR4 0 _ rfl
   have r1 := hxR4 1 _ rfl
   have r2 := hxR4 2 _ rfl
   have r3 := hxR4 3 _ rfl
   have HE : Hid (∀ X, Tcs (fun k => k = R) W4 X → PcI (ansR l t s) w (.returned (.agg #[.int .i64 5, .int .i64 (l.length : Int), .slice none 0 0, .slice none 0 0])) X) := fun X hX => HAns.out W4 X 5 _ _ _ t00 [] hb4 hX (TreeOwn.nil _ _) (by unfold ansR; rw [if_neg (by simp [hs0]), if_neg (by simp [hv])])
   clear hxR4 hx4 eW4 eF st4 hb4 st tr hJ hdm hbb hb3 hx3 hs3 hT3 hsz hbw hxR hTab hRn hgn hfn hal hs0 hv
   go_upto_region 5 with fail
   rw [← HW4.out, ← HF.out]
   go_wp2_with fail
   refine bodyPost_ret (v := .agg #[.int .i64 5, .int .i64 (l.length : Int), .slice none 0 0, .slice none 0 0]) (by simp [results, Tryz.results8, go_sem, r0, r1, r2, r3]) rfl (HE.out _ (((((Tcs.refl (fun k => k = R) W4).setCell (p := ⟨R, 0, none⟩) rfl _).setCell (p := ⟨R, 1, none⟩) rfl _).setCell (p := ⟨R, 2, none⟩) rfl _).setCell (p := ⟨R, 3, none⟩) rfl _))
 ·have hs0 : s.er ≠ 0 := hdm.1 hd
  have hfv : fvS (tokT C.l) s = (s.er, s.pl) := by unfold fvS; rw [if_neg hs0]
  rw [hfv]
  dsimp only
  obtain ⟨W4, eW4⟩ : ∃ W4, W4 = w3.alloc (.cells #[.int .i64 s.er, .int .i64 s.pl] 65) := ⟨_, rfl⟩
  obtain ⟨F, eF⟩ : ∃ F, F = w3.heap.size := ⟨_, rfl⟩
  have hb4 : Below w3.heap.size w3 W4 := by rw [eW4]; exact (Below.refl _ _).alloc (Nat.le_refl _) _
  have hx4 : FrC W4 F [.int .i64 s.er, .int .i64 s.pl] := by rw [eW4, eF]; exact box_fr w3 #[.int .i64 s.er, .int .i64 s.pl] _ (by show 2 ≤ 1000; omega)
  have hxR4 := hx3.below hb4
  have f0 := hx4 0 _ rfl
  have f1 := hx4 1 _ rfl
  have r0 := hxR4 0 _ rfl
  have r1 := hxR4 1 _ rfl
  have r2 := hxR4 2 _ rfl
  have r3 := hxR4 3 _ rfl
  have hFR : F ≠ R := by omega
  have HE : Hid (∀ X, Tcs (fun k => k = R) W4 X → PcI (ansR l t s) w (.returned (.agg #[.int .i64 s.er, .int .i64 s.pl, .slice none 0 0, .slice none 0 0])) X) := fun X hX => HAns.out W4 X _ _ _ _ t00 [] hb4 hX (TreeOwn.nil _ _) (by unfold ansR; rw [if_pos hs0])
  have HW4 := hide eW4
  have HF := hide eF
  clear hxR4 hx4 eW4 eF hb4 hdm hbb hb3 hx3 hs3 hT3 hsz hbw hxR hTab hRn hfv hd HAns
  generalize s.er = er at *
  generalize s.pl = pl at *
  go_upto_region 5 with fail
  rw [← HW4.out, ← HF.out]
  go_wp2_with fail
  refine bodyPost_ret (v := .agg #[.int .i64 er, .int .i64 pl, .slice none 0 0, .slice none 0 0]) (by simp [results, Tryz.results8, go_sem, r0, r1, r2, r3]) rfl (HE.out _ (((((Tcs.refl (fun k => k = R) W4).setCell (p := ⟨R, 0, none⟩) rfl _).setCell (p := ⟨R, 1, none⟩) rfl _).setCell (p := ⟨R, 2, none⟩) rfl _).setCell (p := ⟨R, 3, none⟩) rfl _))
end
end Go.Proofs.YtlamjfhhefcohaaGreatDoor
