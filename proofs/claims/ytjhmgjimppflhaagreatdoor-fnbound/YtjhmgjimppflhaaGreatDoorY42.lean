import Derived.Test.YtjhmgjimppflhaaGreatDoorY41
import Derived.Test.YtjhmgjimppflhaaGreatDoorY36
import Derived.Deep.RegionHeld
import Derived.Lib.QuietBelow
import Derived.BigQuiet
import Derived.RegionTactic
set_option linter.unusedSectionVars false
variable [Inhabited Go.Proofs.YtjhmgjimppflhaaGreatDoor.Pick]
namespace Go.Proofs.YtjhmgjimppflhaaGreatDoor
set_option linter.unusedVariables false
set_option linter.unusedSimpArgs false
set_option maxRecDepth 100000
set_option maxHeartbeats 16000000
section
open Go.RowKit Go.Sort
set_option maxHeartbeats 1000000 in
theorem lwNums_any (v1 v2 : Value) (l : List Int) (w : World) (hl : l.length ≤ 100000000) (h1 : Ints w v1 l) (h2 : Ints w v2 l) :
  Calls Tryz.prog 13 #[v1, v2] w fun e w' => e = .returned (.bool true) ∧ Below w.heap.size w w' := by
 obtain ⟨a1, c1, rfl, hc1⟩ := h1
 obtain ⟨a2, c2, rfl, hc2⟩ := h2
 have H1 : Hid (0 < l.length → ∃ b, a1 = some ⟨b, 0, none⟩ ∧ ∀ j (h : j < l.length), w.cell? ⟨b, j, none⟩ = some (.int .i64 l[j])) := hc1
 have H2 : Hid (0 < l.length → ∃ b, a2 = some ⟨b, 0, none⟩ ∧ ∀ j (h : j < l.length), w.cell? ⟨b, j, none⟩ = some (.int .i64 l[j])) := hc2
 clear hc1 hc2
 go_enter Tryz.func13, Tryz.ntmps13
 go_wp2_with fail
 go_loopw [5] (fun i wr => ∃ k : Nat, k ≤ l.length ∧ i = .int .i64 k ∧ Below w.heap.size w wr) (fun i _ => l.length - (RowKit.intOf i).toNat)
 case atStart => exact ⟨0, Nat.zero_le _, rfl, Below.refl _ _⟩
 case round =>
  obtain ⟨k, hk, rfl, hB⟩ := hrel
  by_cases hlt : k < l.length
  ·obtain ⟨b1, rfl, hx1⟩ := H1.out (by omega)
   obtain ⟨b2, rfl, hx2⟩ := H2.out (by omega)
   have d1 := hx1 k hlt
   have d2 := hx2 k hlt
   have e1 := (hB.cell (p := ⟨b1, k, none⟩) (World.block_lt_of_cell? _ _ d1)).trans d1
   have e2 := (hB.cell (p := ⟨b2, k, none⟩) (World.block_lt_of_cell? _ _ d2)).trans d2
   clear hx1 hx2 d1 d2
   generalize l[k] = z at e1 e2
   go_wp2_with fail
   go_region
   go_wp2_with fail
   go_roundw
   case rel => exact ⟨k + 1, by omega, by go_num, hB.drew⟩
   case measure => simp [RowKit.intOf]; omega
  ·go_wp2_with fail
   go_ret
   exact ⟨rfl, hB⟩
theorem frameSz_16 {f : Fu} (h : FrOk f) : 16 ≤ frameSz f ∧ frameSz f % 16 = 0 := by
 have h1 := places_bd f.body h.st
 unfold frameSz
 omega
theorem bcell_irow {B : Nat} {w : World} {v : Value} {L : List Nat} (h : IRow B w v L) (k : Nat) (hk : k < L.length) : ∃ b c, v = .slice (some ⟨b, 0, none⟩) L.length c ∧ b < w.heap.size ∧ w.cell? ⟨b, k, none⟩ = some (.int .i64 (L[k] : Int)) := by
 have h0 := h
 rcases h.2 with ⟨-, hz⟩ | ⟨g, cap, cur, rfl, h1, h2, -⟩
 ·omega
 ·refine ⟨g, cap, rfl, (Array.getElem?_eq_some_iff.1 h2).1, ?_⟩
  have := World.ownsRow.cellAt (n := L.length) h0 k (by simpa using hk)
  rw [this]
  simp [hk]
theorem mxL_take {g : Nat → Int} {C : List Nat} {q : Nat} (hq : q < C.length) : mxL ((C.take (q + 1)).map g) = max (mxL ((C.take q).map g)) (g C[q]) := by
 rw [List.take_add_one, List.getElem?_eq_getElem hq, List.map_append]
 exact mxL_snoc _ _
theorem clF_is {t : Tr} {f : Nat} (hf : f < t.funcs.length) (hb : treeB t = true) : callsF t (f : Int) = clF t f := by
 rw [callsF_yes hf hb]
 unfold clF
 simp [List.getD, hf]
theorem fszF_is {t : Tr} {f : Nat} (hf : f < t.funcs.length) : (t.funcs.map frameSz)[f]? = some (fszF t f) := by
 unfold fszF
 simp [List.getD, hf]
set_option maxRecDepth 100000 in
set_option maxHeartbeats 4000000 in
theorem lwDeep_any (t : Tr) (ga : Option Addr) (gn gc : Nat) (fa : Option Addr) (fn fc : Nat) (vF : Value) (W0 : World) (hb : treeB t = true) (hn : t.funcs.length ≤ 20) (hz : ∀ f, f < t.funcs.length → 0 ≤ fszF t f ∧ fszF t f ≤ 1000000)
  (HC : ∀ (f : Int) (W : World), Below W0.heap.size W0 W → Calls Tryz.prog 8 #[.agg #[.slice ga gn gc, .slice fa fn fc], .int .i64 f] W fun e w' => ∃ va vc, e = .returned (.slice va (callsF t f).length vc) ∧ IRow W.heap.size w' (.slice va (callsF t f).length vc) (callsF t f) ∧ Below W.heap.size W w')
  (HF : ∀ W, Below W0.heap.size W0 W → Ints W vF (t.funcs.map frameSz)) :
  ∀ (n f : Nat) (s : Int), Dp t n f s → ∀ (left : Nat) (z : Int), z = left → n ≤ left → left ≤ 1000 → ∀ W, Below W0.heap.size W0 W → Calls Tryz.prog 17 #[.agg #[.slice ga gn gc, .slice fa fn fc], vF, .int .i64 (f : Int), .int .i64 z] W fun e w' => e = .returned (.int .i64 s) ∧ Below W.heap.size W w' := by
 intro n f s hd
 induction hd using Dp_i with
 | mk n f g hf hg ih =>
  intro left z hze hle hl1 W hW
  have HCs := hide HC
  obtain ⟨z1, hz1⟩ : ∃ z1, z1 = z - 1 := ⟨_, rfl⟩
  have HIh : Hid (∀ c ∈ clF t f, ∀ W, Below W0.heap.size W0 W → Calls Tryz.prog 17 #[.agg #[.slice ga gn gc, .slice fa fn fc], vF, .int .i64 (c : Int), .int .i64 z1] W fun e w' => e = .returned (.int .i64 (g c)) ∧ Below W.heap.size W w') := fun c hc W hW => ih c hc (left - 1) z1 (by omega) (by omega) (by omega) W hW
  have hzb : 1 ≤ z ∧ z ≤ 1000 := by omega
  have hzw : IntKind.i64.wrap (z - 1) = z1 := by rw [hz1]; simp [IntKind.wrap, IntKind.bits, IntKind.signed]; omega
  have hbd : ∀ q, 0 ≤ mxL (((clF t f).take q).map g) ∧ mxL (((clF t f).take q).map g) ≤ 1000000 * n := fun q => mxL_bd _ _ (by omega) (fun x hx => by
   obtain ⟨c, hc, rfl⟩ := List.mem_map.1 hx
   exact ((hg c (List.mem_of_mem_take hc)).bd hz).2)
  have HGb : Hid (∀ c ∈ clF t f, 0 ≤ g c ∧ g c ≤ 1000000000) := fun c hc => by have := (hg c hc).bd hz; omega
  have HBd : Hid (∀ q, 0 ≤ mxL (((clF t f).take q).map g) ∧ mxL (((clF t f).take q).map g) ≤ 1000000000) := fun q => by have := hbd q; omega
  have hfz := hz f hf
  obtain ⟨fz, hfze⟩ : ∃ fz, fz = fszF t f := ⟨_, rfl⟩
  obtain ⟨vFa, vFc, hvF, hvc⟩ := HF W hW
  have hfl' : f < (t.funcs.map frameSz).length := by simpa using hf
  obtain ⟨bF, hbF, hcF⟩ := hvc (by omega)
  have hcf := hcF f hfl'
  have hge : (t.funcs.map frameSz)[f] = fszF t f := by
   have := fszF_is hf
   rw [List.getElem?_eq_getElem hfl'] at this
   exact Option.some.inj this
  rw [hge, ← hfze] at hcf
  rw [← hfze] at hfz ⊢
  obtain ⟨nf, hnf⟩ : ∃ nf, nf = (t.funcs.map frameSz).length := ⟨_, rfl⟩
  have hfn' : f < nf := by rw [hnf]; exact hfl'
  have hfi : (0 : Int) ≤ (f : Int) ∧ (f : Int) < (nf : Int) := by omega
  rw [← hnf] at hvF
  subst hbF
  subst hvF
  have hbl := World.block_lt_of_cell? _ _ hcf
  have HCf : Hid (∀ X, Below W.heap.size W X → X.cell? ⟨bF, f, none⟩ = some (.int .i64 fz)) := fun X hX => (hX.cell (p := ⟨bF, f, none⟩) hbl).trans hcf
  obtain ⟨W1, hW1⟩ : ∃ W1, W1 = W.alloc (.cells #[.slice ga gn gc, .slice fa fn fc] 26) := ⟨_, rfl⟩
  obtain ⟨P, hP⟩ : ∃ P, P = W.heap.size := ⟨_, rfl⟩
  have hb1 : Below W.heap.size W W1 := by rw [hW1]; exact (Below.refl _ _).alloc (Nat.le_refl _) _
  have hTb : W1.cell? ⟨P, 0, none⟩ = some (.slice ga gn gc) ∧ W1.cell? ⟨P, 1, none⟩ = some (.slice fa fn fc) := by rw [hW1, hP]; exact ⟨by simp, by simp⟩
  have hlP := World.block_lt_of_cell? _ _ hTb.1
  have HTb : Hid (∀ X, Below W1.heap.size W1 X → X.cell? ⟨P, 0, none⟩ = some (.slice ga gn gc) ∧ X.cell? ⟨P, 1, none⟩ = some (.slice fa fn fc)) := fun X hX => ⟨(hX.cell (p := ⟨P, 0, none⟩) hlP).trans hTb.1, (hX.cell (p := ⟨P, 1, none⟩) hlP).trans hTb.2⟩
  have HW1 := hide hW1
  have HP := hide hP
  have HB1 := hide hb1
  have HB0 := hide (hW.trans (hb1.mono hW.size))
  obtain ⟨C, hC⟩ : ∃ C, C = clF t f := ⟨_, rfl⟩
  obtain ⟨cn, hcn⟩ : ∃ cn, cn = C.length := ⟨_, rfl⟩
  have HCall := HCs.out f W1 HB0.out
  rw [clF_is hf hb, ← hC, ← hcn] at HCall
  have HCl := hide HCall
  have hcn20 : cn ≤ 20 := by
   have := callsF_len t f
   rw [clF_is hf hb, ← hC, ← hcn] at this
   omega
  rw [← hC] at HIh HBd HGb ⊢
  have HCn := hide hcn
  clear hC hcn HCall hTb hlP hW1 hP hb1 hcf hcF hvc hge hfl' hnf hbd ih hg HC HF hW hfze HCs hz1 hze hle hl1
  go_enter Tryz.func17, Tryz.ntmps17
  go_upto_region 1 with fail
  rw [← HW1.out, ← HP.out]
  obtain ⟨y0, y1⟩ := HTb.out W1 (Below.refl _ _)
  have hz0 : (z == 0) = false := by simp; omega
  go_wp2_with fail
  refine HCl.out.mono ?_
  rintro e w2 ⟨ua, uc, rfl, hr2, hb2⟩
  have HR2 := hide hr2
  have HB2 := hide hb2
  have hsz2 := hb2.size
  clear hr2 hb2 y0 y1 HCl HW1
  go_wp2_with fail
  go_loopw [9, 11] (fun mv j ws => ∃ q : Nat, j = .int .i64 q ∧ q ≤ cn ∧ mv = .int .i64 (mxL ((C.take q).map g)) ∧ Below w2.heap.size w2 ws) (fun _ j _ => cn - (RowKit.intOf j).toNat)
  case atStart => exact ⟨0, rfl, Nat.zero_le _, by simp [mxL], Below.refl _ _⟩
  case round =>
   obtain ⟨q, rfl, hq, rfl, hbs⟩ := hrel
   rename World => Ws
   have HBs := hide hbs
   have hB1s : Below W1.heap.size W1 Ws := HB2.out.trans (hbs.mono hsz2)
   have hBWs : Below W.heap.size W Ws := HB1.out.trans (hB1s.mono HB1.out.size)
   have hp := HBd.out q
   by_cases hlt : q < cn
   ·obtain ⟨b5, c5, e5, hb5, x5⟩ := bcell_irow (HR2.out.below hbs) q (by rw [← HCn.out]; exact hlt)
    simp only [Value.slice.injEq] at e5
    obtain ⟨rfl, -, rfl⟩ := e5
    have hcm : C[q]'(by rw [← HCn.out]; exact hlt) ∈ C := List.getElem_mem _
    have HMx := hide (mxL_take (g := g) (C := C) (q := q) (by rw [← HCn.out]; exact hlt))
    generalize C[q]'(by rw [← HCn.out]; exact hlt) = c at x5 hcm HMx
    have hgc := HGb.out c hcm
    have c0 : ∀ dd os, Calls Tryz.prog 17 #[.agg #[.slice ga gn gc, .slice fa fn fc], .slice (some ⟨bF, 0, none⟩) nf vFc, .int .i64 (c : Int), .int .i64 z1] (grow (redrawn Ws dd) os) fun e w'' => e = .returned (.int .i64 (g c)) ∧ ∃ p : Regrown, w'' = grow (redrawn Ws p.d) p.os := fun dd os => Calls.regrown_of (HIh.out c hcm _ (HB0.out.trans ((hB1s.trans ((below_regrown Ws dd os).mono hB1s.size)).mono HB0.out.size)))
    generalize g c = x at c0 HMx hgc
    generalize mxL ((C.take q).map g) = p at HMx hp ⊢
    obtain ⟨y0, y1⟩ := HTb.out Ws hB1s
    have k0 := cell_regrown y0
    have k1 := cell_regrown y1
    have k2 := cell_regrown x5
    clear hbs
    go_wp2_with fail
    refine wp_region_quiet_below (by kernel_rfl) (by kernel_rfl) ?_
    repeat (go_big_quiet_step (first | with_reducible exact c0 _ _))
    refine wpQuiet_nil ?_
    intro _ hw'
    obtain ⟨⟨dq, osq⟩, hw''⟩ := hw'
    subst hw''
    have HNx : Hid (Below w2.heap.size w2 (grow (redrawn Ws dq) osq)) := HBs.out.trans ((below_regrown Ws dq osq).mono HBs.out.size)
    clear c0 k0 k1 k2 y0 y1 x5
    by_cases hgt : p < x
    ·have HE : Hid (max p x = x) := by show _ = _; omega
     go_wp2_with fail
     go_roundw
     case rel => exact ⟨q + 1, by go_num, hlt, by rw [HMx.out, HE.out], HNx.out⟩
     case measure => simp [RowKit.intOf]; omega
    ·have HE : Hid (max p x = p) := by show _ = _; omega
     go_wp2_with fail
     go_roundw
     case rel => exact ⟨q + 1, by go_num, hlt, by rw [HMx.out, HE.out], HNx.out⟩
     case measure => simp [RowKit.intOf]; omega
   ·have hqe : q = cn := by omega
    have HTk : Hid (C.take q = C) := by show _ = _; rw [hqe, HCn.out]; exact List.take_length
    rw [HTk.out] at hp ⊢
    have x6 := HCf.out Ws hBWs
    generalize hge : mxL (C.map g) = p at hp ⊢
    clear hqe
    go_wp2_with fail
    go_ret
    exact ⟨ret_int (by omega), hBWs⟩
end
end Go.Proofs.YtjhmgjimppflhaaGreatDoor
