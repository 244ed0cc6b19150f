import Derived.Test.YtolkpkklinoegaaDoorM29
import Derived.Test.YtolkpkklinoegaaDoorM12
set_option linter.unusedSectionVars false
variable [Inhabited Go.Proofs.YtolkpkklinoegaaDoor.Pick]
namespace Go.Proofs.YtolkpkklinoegaaDoor
set_option linter.unusedVariables false
set_option linter.unusedSimpArgs false
set_option maxRecDepth 100000
set_option maxHeartbeats 16000000
section
open Go.RowKit
theorem rs_start {w0 w1 wr : World} {t : Tr} {i fr : List Int} {F : Int} {vg vf vI vFr : Value} {ga : Option Addr} {gc P d : Nat} {gb : List Nat} (h0 : Below w0.heap.size w0 w1) (hG : GI w1 P t.globals wr (.slice ga t.globals.length gc) gb) (hP : w0.heap.size ≤ P ∧ P < w1.heap.size) (hd : w0.heap.size ≤ d ∧ d < w1.heap.size ∧ d ≠ P)
  (hbox : FrC wr P [vg, vf, .slice ga t.globals.length gc, .slice none 0 0, vI, .slice none 0 0, .int .i64 F, .int .i64 0, .int .i64 0, .bool false, .int .i64 0, vFr, .int .i64 0, .int .i64 0]) (hI : InN w0 vI i) (hi : ∀ x ∈ i, inB x) (hF : 0 ≤ F ∧ F ≤ 100000) (hgs : ∀ g ∈ t.globals, 0 ≤ g.size ∧ g.size ≤ 1000000) :
  ∃ bG, (0 < t.globals.length → ga = some ⟨bG, 0, none⟩) ∧ RS ⟨w0, t, fr, vg, vf, vFr, P, bG, ga, gc, gb, F⟩ wr 0 false 0 [] (.slice none 0 0) vI (.slice none 0 0) (s00 t i F) := by
 have hs := hG.tc.size
 have hs0 := h0.size
 -- the block of the row
 obtain ⟨bG, hbG, hbr, hbn, hbP⟩ : ∃ bG, (0 < t.globals.length → ga = some ⟨bG, 0, none⟩) ∧ (w0.heap.size ≤ bG ∧ bG < wr.heap.size) ∧ bG ∉ gb ∧ bG ≠ P := by
  by_cases hz : 0 < t.globals.length
  ·rcases hG.row.2 with ⟨-, e⟩ | ⟨g, cap, cur, e, -⟩
   ·omega
   ·simp only [Value.slice.injEq] at e
    obtain ⟨rfl, -, rfl⟩ := e
    have hlt := World.ownsRow.lt hG.row g rfl
    exact ⟨g, fun _ => rfl, ⟨by omega, hlt.2⟩, hG.lo g rfl, by omega⟩
  ·exact ⟨d, fun h => absurd h hz, ⟨hd.1, by omega⟩, fun hm => by have := (hG.rng d hm).1; omega, hd.2.2⟩
 have hgl : ∀ k, k < t.globals.length → (s00 t i F).g.getD k [] = gw0 (t.globals.getD k ⟨⟨#[]⟩, 0⟩) := fun k hk => by
  simp [s00, List.getD, hk]
 have hll := hG.ll
 have hK : ∀ k, k ∈ (⟨w0, t, fr, vg, vf, vFr, P, bG, ga, gc, gb, F⟩ : RC).K [] ↔ k = P ∨ k = bG ∨ k ∈ gb := fun k => by simp [RC.K]
 refine ⟨bG, hbG, ?_⟩
 refine ⟨hG.tc.below h0 hs0 (fun k hk => by have e : k = P := hk; show w0.heap.size ≤ k; omega), ?_, fun k h1 h2 => ?_, by simp [s00, hll], fun k h1 => ?_, fun k h1 => ?_, rfl, World.ownsRow_nil _ _ _ _, (fun j hj => by simp at hj), hI, World.ownsRow_nil _ _ _ _, ?_, fun k hk => ?_, (fun k hk => by cases hk), (fun k hk => by cases hk), ⟨?_, ?_, hi⟩, ⟨?_, ?_⟩, by simp [s00], ⟨by simp [s00], ?_, by simp [s00], by simp [s00]⟩⟩
 ·have e : F - ((s00 t i F).u : Int) = 0 := by show F - ((F.toNat : Nat) : Int) = 0; omega
  show FrC wr P [vg, vf, .slice ga t.globals.length gc, .slice none 0 0, vI, .slice none 0 0, .int .i64 F, .int .i64 (F - ((s00 t i F).u : Int)), .int .i64 0, .bool false, .int .i64 0, vFr, .int .i64 0, .int .i64 0]
  rw [e]
  exact hbox
 ·have h1 : k < t.globals.length := h1
  have h2 : k < gb.length := h2
  have hga := hbG (by omega)
  have hfl := gflat_len hll
  have hrow := hG.row
  rw [hga] at hrow
  have e0 : (s00 t i F).g.getD k [] = gw0 t.globals[k] := by rw [hgl k h1]; simp [List.getD, h1]
  rw [e0, gw0_len]
  refine ⟨?_, ?_⟩
  ·show wr.cell? ⟨bG, k * 2, none⟩ = some (.string t.globals[k].name)
   rw [World.ownsRow.cellAt hrow (k * 2) (by omega)]
   have := gflat_get t.globals gb hll k 0 h1 (by omega)
   simpa [gcl] using this
  ·show wr.cell? ⟨bG, k * 2 + 1, none⟩ = some (.slice (some ⟨gb[k], 0, none⟩) (gln t.globals[k]) (gln t.globals[k]))
   rw [World.ownsRow.cellAt hrow (k * 2 + 1) (by omega), gflat_get t.globals gb hll k 1 h1 (by omega)]
   simp [gcl]
 ·have h1 : k < gb.length := h1
  have hk : k < t.globals.length := by omega
  have e0 : (s00 t i F).g.getD k [] = gw0 t.globals[k] := by rw [hgl k hk]; simp [List.getD, hk]
  rw [e0, gw0_map]
  exact hG.lw k h1 hk
 ·have hk : k < t.globals.length := by simpa [s00] using h1
  have e : (s00 t i F).g[k] = gw0 t.globals[k] := by simp [s00]
  rw [e, gw0_len]
  have := hgs _ (List.getElem_mem hk)
  unfold gln
  split <;> omega
 ·unfold RC.K
  simp only [List.append_nil]
  refine List.nodup_cons.2 ⟨fun hm => ?_, List.nodup_cons.2 ⟨hbn, hG.nd⟩⟩
  rcases List.mem_cons.1 hm with e | hm
  ·exact hbP e.symm
  ·have : w1.heap.size ≤ P := (hG.rng _ hm).1
   omega
 ·rcases (hK k).1 hk with rfl | rfl | hk
  ·exact ⟨hP.1, by show k < wr.heap.size; omega⟩
  ·exact hbr
  ·have := hG.rng k hk
   exact ⟨by show w0.heap.size ≤ k; omega, this.2⟩
 ·intro ws hws x hx
  obtain ⟨g, -, rfl⟩ := List.mem_map.1 hws
  have := List.eq_of_mem_replicate hx
  rw [this]
  exact inB0
 ·intro x hx
  cases hx
 ·show ((F.toNat : Nat) : Int) ≤ F
  omega
 ·show ((0 : Nat) : Int) + ((F.toNat : Nat) : Int) ≤ F
  omega
 ·show (0 : Int) + 1000000000 * ((F.toNat : Nat) : Int) ≤ 100001000000000
  omega
end
section
open Go.RowKit
theorem ev_sides {t : Tr} {fr : List Int} {n : Nat} {e : List Nd} {s : ES} {r : ER} {s' : ES} (h : Ev t fr (n + 1) (.e e) s r s') (hk : (rootN e).kind = 8 ∨ (rootN e).kind = 9) : ∃ b, Cut e 2 b ∧
  ((∃ c, r = .out c ∧ Ev t fr n (.e (kid e b 0)) s (.out c) s') ∨ (∃ x, r = .out 2 ∧ Ev t fr n (.e (kid e b 0)) s (.val x) s' ∧ s'.u = 0) ∨
  (∃ x s1, ((rootN e).kind = 8 ∧ x = 0 ∨ (rootN e).kind = 9 ∧ x ≠ 0) ∧ r = .val (boolN (decide (x ≠ 0))) ∧ s' = s1.sp ∧ Ev t fr n (.e (kid e b 0)) s (.val x) s1 ∧ 0 < s1.u) ∨
  (∃ x s1, ((rootN e).kind = 8 ∧ x ≠ 0 ∨ (rootN e).kind = 9 ∧ x = 0) ∧ Ev t fr n (.e (kid e b 0)) s (.val x) s1 ∧ 0 < s1.u ∧ ((∃ c, r = .out c ∧ Ev t fr n (.e (kid e b 1)) s1.sp (.out c) s') ∨ (∃ y, r = .out 2 ∧ Ev t fr n (.e (kid e b 1)) s1.sp (.val y) s' ∧ s'.u = 0) ∨ (∃ y s2, r = .val (boolN (decide (y ≠ 0))) ∧ s' = s2.sp ∧ Ev t fr n (.e (kid e b 1)) s1.sp (.val y) s2 ∧ 0 < s2.u)))) := by
 have no : (rootN e).kind ≠ 8 → (rootN e).kind ≠ 9 → False := fun a b => by rcases hk with h | h; exact a h; exact b h
 cases h using Ev_i with
 | kid _ _ A b st v j c _ h1 h2 h3 h4 h5 h6 => exact (no h2 h3).elim
 | dry _ _ A b st v h1 h2 h3 h4 h5 => exact (no h2 h3).elim
 | work _ _ A b st v h1 h2 h3 h4 h5 h6 => exact (no h2 h3).elim
 | call _ _ A b st v f _ _ h1 h2 h3 h4 h5 h6 => rcases hk with h | h <;> (rw [h] at h2; cases h2)
 | left _ _ b _ c _ h1 h2 h3 => exact ⟨b, h1, .inl ⟨c, rfl, h3⟩⟩
 | ldry _ _ b _ x _ h1 h2 h3 h4 => exact ⟨b, h1, .inr (.inl ⟨x, rfl, h3, h4⟩)⟩
 | lone _ _ b _ x s1 h1 h2 h3 h4 => exact ⟨b, h1, .inr (.inr (.inl ⟨x, s1, h2, rfl, rfl, h3, h4⟩))⟩
 | rigt _ _ b _ x s1 c _ h1 h2 h3 h4 h5 => exact ⟨b, h1, .inr (.inr (.inr ⟨x, s1, h2, h3, h4, .inl ⟨c, rfl, h5⟩⟩))⟩
 | rdry _ _ b _ x s1 y _ h1 h2 h3 h4 h5 h6 => exact ⟨b, h1, .inr (.inr (.inr ⟨x, s1, h2, h3, h4, .inr (.inl ⟨y, rfl, h5, h6⟩)⟩))⟩
 | both _ _ b _ x s1 y s2 h1 h2 h3 h4 h5 h6 => exact ⟨b, h1, .inr (.inr (.inr ⟨x, s1, h2, h3, h4, .inr (.inr ⟨y, s2, rfl, rfl, h5, h6⟩)⟩))⟩
set_option maxRecDepth 100000 in
set_option maxHeartbeats 16000000 in
theorem exS_sides (C : RC) (hC : C.Ok) (n : Nat) (IH : ExS C n) (e : List Nd) (s : ES) (r : ER) (s' : ES) (hE : Ev C.t C.fr (n + 1) (.e e) s r s') (hk : (rootN e).kind = 8 ∨ (rootN e).kind = 9) (hkn : KnE C.t (s.l.map Prod.fst) e) (hsc : Scp C.t (s.l.map Prod.fst)) (h1 : oneB e = true) (hl1 : e.length ≤ 1048576) (w : World) (vl : Int) (lb : List Nat) (vL vI vO ve : Value) (h : RS C w 0 false vl lb vL vI vO s) (hN : Nodes C.w0 ve e) :
  Calls Tryd.prog 83 #[.pointer (some ⟨C.P, 0, none⟩), ve] w fun x w' => ExP C w lb vL vO r s' x w' := by
 obtain ⟨b, hc0, hcase⟩ := ev_sides hE hk
 have he := hc0.len
 have hk1 := kid_ones h1 hc0
 have hl0 := hc0.kid_lt 0 (by omega)
 have hl2 := hc0.kid_lt 1 (by omega)
 have HOut : Hid (∀ c, r = .out c → c ≠ 0) := fun c hc => by have := hE.outc c hc; omega
 have HI0 : Hid (∀ r1 s1, Ev C.t C.fr n (.e (kid e b 0)) s r1 s1 → ∀ X vi, Below w.heap.size w X → Nodes C.w0 vi (kid e b 0) → Calls Tryd.prog 83 #[.pointer (some ⟨C.P, 0, none⟩), vi] X fun x w' => ExP C X lb vL vO r1 s1 x w') := fun r1 s1 hE1 X vi hX hNi => IH (kid e b 0) s r1 s1 hE1 hkn.kid hsc (hk1 0 (by omega)) (by omega) X vl lb vL vI vO vi (h.below hX) hNi
 have HI1 : Hid (∀ z x s1 r1 s2, Ev C.t C.fr n (.e (kid e b 0)) s (.val x) s1 → Ev C.t C.fr n (.e (kid e b 1)) s1.sp r1 s2 → ∀ X vi vI1 vO1, RS C X 0 false z lb vL vI1 vO1 s1.sp → Nodes C.w0 vi (kid e b 1) → Calls Tryd.prog 83 #[.pointer (some ⟨C.P, 0, none⟩), vi] X fun x w' => ExP C X lb vL vO1 r1 s2 x w') := fun z x s1 r1 s2 hE0 hE1 X vi vI1 vO1 hX hNi => by
  have hl : s1.sp.l = s.l := (hE0.inv h.ok trivial).2.2.2.2.2
  exact IH (kid e b 1) s1.sp r1 s2 hE1 (by rw [hl]; exact hkn.kid) (by rw [hl]; exact hsc) (hk1 1 (by omega)) (by omega) X z lb vL vI1 vO1 vi hX hNi
 have HDe : Hid (∀ X c z vI1 vO1 s1 vi, c ≠ 0 → RS C X c false z lb vL vI1 vO1 s1 → Nodes C.w0 vi (kid e b 1) → Calls Tryd.prog 83 #[.pointer (some ⟨C.P, 0, none⟩), vi] X fun x w' => x = .returned (.int .i64 0) ∧ Below X.heap.size X w') := fun X c z vI1 vO1 s1 vi hc hX hNi => dead_any C _ (kid e b 1) (Nat.le_refl _) (hk1 1 (by omega)) (by omega) X c false z lb vL vI1 vO1 vi s1 hc hX hNi
 have HRS := hide h
 have HCs := hide hcase
 have HFu := hide hC.fu
 have HR : Hid (Calls Tryd.prog 41 #[ve] w fun r w' => r = .returned (.agg #[.int .i64 (rootN e).kind, .int .i64 (rootN e).val, .string (rootN e).name]) ∧ Below w.heap.size w w') := by
  have := root_any _ e w he hl1 (hN.below h.bel)
  rw [← rootN_eq e he] at this
  exact this
 have HK : Hid (∀ W : World, Below w.heap.size w W → Calls Tryd.prog 42 #[ve] W fun r w' => ∃ v', r = .returned v' ∧ Kids C.w0 w' W.heap.size v' e b 2 ∧ Below W.heap.size W w') := fun W hW => kids_any C.w0 ve e 2 b W hl1 hN (h.bel.trans (hW.mono h.bel.size)) hc0
 clear IH hN hk1 h hE hcase hkn hsc hC hl0 hl2
 generalize hR : rootN e = R at HR HCs hk
 clear hR hc0
 obtain ⟨nk, nv, nm⟩ := R
 simp only at HR
 have hk : nk = 8 ∨ nk = 9 := hk
 have hba : ∀ w1 : World, Below w.heap.size w w1 → ∀ o, Below w.heap.size w (w1.alloc o) := fun w1 h o => h.alloc h.size o
 go_enter Tryd.func83, Tryd.ntmps83
 go_wp2_with fail
 refine HR.out.mono ?_
 rintro x w1 ⟨rfl, hb1⟩
 go_wp2_with fail
 refine (HK.out _ (hba _ hb1 _)).mono ?_
 rintro x W ⟨vk, rfl, hKd, hb2⟩
 obtain ⟨g0, g1, g2⟩ : W.cell? ⟨w1.heap.size, 0, none⟩ = some (.int .i64 nk) ∧ W.cell? ⟨w1.heap.size, 1, none⟩ = some (.int .i64 nv) ∧ W.cell? ⟨w1.heap.size, 2, none⟩ = some (.string nm) := by
  refine ⟨?_, ?_, ?_⟩
  ·rw [hb2.cell (by simp)]; simp
  ·rw [hb2.cell (by simp)]; simp
  ·rw [hb2.cell (by simp)]; simp
 have HBW : Hid (Below w.heap.size w W) := (hba _ hb1 _).trans (hb2.mono (by have := hb1.size; simp; omega))
 have hGl : w1.heap.size < W.heap.size := World.block_lt_of_cell? _ _ g0
 have hGw : w.heap.size ≤ w1.heap.size := hb1.size
 obtain ⟨ua, uc, rfl, hu1, hu2, hu3⟩ := hKd
 obtain ⟨B, rfl, hB1, hB2, hBc⟩ := hu3 (by omega)
 have hBw : w.heap.size ≤ B := by simp at hB1; omega
 obtain ⟨v0, q0, n0⟩ := hBc 0 (by omega)
 obtain ⟨v1, q1, n1⟩ := hBc 1 (by omega)
 obtain ⟨ka, kn, kc, rfl⟩ : ∃ ka kn kc, v0 = .slice ka kn kc := by obtain ⟨x, y, e, -⟩ := n0; exact ⟨_, _, _, e⟩
 obtain ⟨la, ln, lc, rfl⟩ : ∃ ka kn kc, v1 = .slice ka kn kc := by obtain ⟨x, y, e, -⟩ := n1; exact ⟨_, _, _, e⟩
 generalize w1.heap.size = G at g0 g1 g2 hGl hGw ⊢
 have HN0 := hide n0
 have HN1 := hide n1
 have HTl : Hid (∀ k, TEx C vO k → k < w.heap.size) := fun k hk => (TEx.lt HRS.out k hk).1
 have HKp : Hid (∀ X, Tcs (TEx C vO) W X → X.cell? ⟨G, 0, none⟩ = some (.int .i64 nk) ∧ X.cell? ⟨B, 1, none⟩ = some (.slice la ln lc)) := fun X hX => ⟨(World.cell?_of_block (hX.block G hGl (fun hT => by have := HTl.out G hT; omega))).trans g0, (World.cell?_of_block (hX.block B hB2 (fun hT => by have := HTl.out B hT; omega))).trans q1⟩
 have HnT : Hid (∀ vO1 : Value, (∀ k, vO1.ownBlock = some k → vO.ownBlock = some k ∨ W.heap.size ≤ k) → ∀ k, TEx C vO1 k → TEx C vO k ∨ W.heap.size ≤ k) := fun vO1 h1 k hk => by
  rcases hk with h | h | h
  ·exact .inl (.inl h)
  ·exact .inl (.inr (.inl h))
  ·exact (h1 k h).imp (fun h => .inr (.inr h)) id
 clear hb1 hb2 HR HK hba hu3 hu2 hBc n0 n1 q1 g1 g2
 rcases hk with rfl | rfl
 ·rcases HCs.out with ⟨c, hrc, hE0⟩ | ⟨x0, hrc, hE0, hu0⟩ | ⟨x0, s1, hcond, hrc, hs, hE0, hu0⟩ | ⟨x0, s1, hcond, hE0, hu0, hR⟩
  ·have hcn := HOut.out c hrc
   have HCl := hide (HI0.out _ _ hE0 W (.slice ka kn kc) HBW.out HN0.out)
   go_wp2_with fail
   refine HCl.out.mono ?_
   rintro x w2 ⟨z, vI2, vO2, vl2, rfl, hz, hR2, t2, o2⟩
   have HT2 := hide t2
   have HO2 := hide o2
   have HR2 := hide hR2
   clear HCl hR2 t2 o2
   obtain ⟨y0, y1⟩ := HKp.out w2 HT2.out
   have HFd : Hid (∀ zz X, Below w2.heap.size w2 X → ExP C w lb vL vO r s' (.returned (.int .i64 zz)) X) := fun zz X hX => exp_fin HBW.out (HT2.out.of_below hX) HO2.out (by rw [hrc]; exact HR2.out.below hX) (fun v hv => by rw [hrc] at hv; cases hv)
   go_wp2_with fail
   refine (spendD HR2.out hcn).mono ?_
   rintro x w3 ⟨⟨u3, rfl⟩, hw3⟩
   rw [hw3]
   clear hw3
   by_cases hz0 : z = 0
   ·subst hz0
    go_wp2_with fail
    refine (bool_any false w2).mono ?_
    rintro x wb ⟨rfl, hwb⟩
    rw [hwb]
    clear hwb
    go_wp2_with fail
    go_ret
    exact HFd.out _ _ (Below.refl _ _)
   ·have hz1 : (z != 0) = true := by simpa using hz0
    go_wp2_with fail
    refine (HDe.out w2 c _ _ _ _ _ hcn HR2.out HN1.out).mono ?_
    rintro x w6 ⟨rfl, hb6⟩
    have HRd6 := hide (HR2.out.below hb6)
    go_wp2_with fail
    refine (spendD HRd6.out hcn).mono ?_
    rintro x w7 ⟨⟨u7, rfl⟩, hw7⟩
    rw [hw7]
    clear hw7
    go_wp2_with fail
    refine (bool_any false w6).mono ?_
    rintro x wb ⟨rfl, hwb⟩
    rw [hwb]
    clear hwb
    go_wp2_with fail
    go_ret
    exact HFd.out _ _ hb6
  ·have hcn : (2 : Int) ≠ 0 := by decide
   have HCl := hide (HI0.out _ _ hE0 W (.slice ka kn kc) HBW.out HN0.out)
   go_wp2_with fail
   refine HCl.out.mono ?_
   rintro x w2 ⟨z, vI2, vO2, vl2, rfl, hz, hR2, t2, o2⟩
   have HT2 := hide t2
   have HO2 := hide o2
   have HR2 := hide hR2
   clear HCl hR2 t2 o2
   obtain ⟨y0, y1⟩ := HKp.out w2 HT2.out
   obtain rfl : z = x0 := hz _ rfl
   go_wp2_with fail
   refine (spend0 HR2.out hu0).mono ?_
   rintro x w3 ⟨⟨u3, rfl⟩, hR3, t3⟩
   have HT3 := hide (HT2.out.next t3 (fun k hk => .inl (.inl hk)))
   have HR3 := hide hR3
   clear hR3 t3 y0 y1
   obtain ⟨y0, y1⟩ := HKp.out w3 HT3.out
   have HFd : Hid (∀ zz X, Below w3.heap.size w3 X → ExP C w lb vL vO r s' (.returned (.int .i64 zz)) X) := fun zz X hX => exp_fin HBW.out (HT3.out.of_below hX) HO2.out (by rw [hrc]; exact HR3.out.below hX) (fun v hv => by rw [hrc] at hv; cases hv)
   by_cases hz0 : z = 0
   ·subst hz0
    go_wp2_with fail
    refine (bool_any false w3).mono ?_
    rintro x wb ⟨rfl, hwb⟩
    rw [hwb]
    clear hwb
    go_wp2_with fail
    go_ret
    exact HFd.out _ _ (Below.refl _ _)
   ·have hz1 : (z != 0) = true := by simpa using hz0
    go_wp2_with fail
    refine (HDe.out w3 2 _ _ _ _ _ hcn HR3.out HN1.out).mono ?_
    rintro x w6 ⟨rfl, hb6⟩
    have HRd6 := hide (HR3.out.below hb6)
    go_wp2_with fail
    refine (spendD HRd6.out hcn).mono ?_
    rintro x w7 ⟨⟨u7, rfl⟩, hw7⟩
    rw [hw7]
    clear hw7
    go_wp2_with fail
    refine (bool_any false w6).mono ?_
    rintro x wb ⟨rfl, hwb⟩
    rw [hwb]
    clear hwb
    go_wp2_with fail
    go_ret
    exact HFd.out _ _ hb6
  ·have HCl := hide (HI0.out _ _ hE0 W (.slice ka kn kc) HBW.out HN0.out)
   go_wp2_with fail
   refine HCl.out.mono ?_
   rintro x w2 ⟨z, vI2, vO2, vl2, rfl, hz, hR2, t2, o2⟩
   have HT2 := hide t2
   have HO2 := hide o2
   have HR2 := hide hR2
   clear HCl hR2 t2 o2
   obtain ⟨y0, y1⟩ := HKp.out w2 HT2.out
   obtain rfl : z = x0 := hz _ rfl
   go_wp2_with fail
   refine (spend1 HR2.out hu0 HFu.out).mono ?_
   rintro x w3 ⟨⟨u3, rfl⟩, hR3, t3⟩
   have HT3 := hide (HT2.out.next t3 (fun k hk => .inl (.inl hk)))
   have HR3 := hide hR3
   clear hR3 t3 y0 y1
   obtain ⟨y0, y1⟩ := HKp.out w3 HT3.out
   have hz0 : z = 0 := by rcases hcond with ⟨-, h⟩ | ⟨h, -⟩; exact h; exact absurd h (by decide)
   subst hz0
   have HF := hide (exp_fin (z := boolN false) HBW.out HT3.out HO2.out (r := r) (s' := s') (by rw [hrc, hs]; exact HR3.out) (fun v hv => by rw [hrc] at hv; cases hv; rfl))
   clear hrc hs
   go_wp2_with fail
   refine (bool_any false w3).mono ?_
   rintro x wb ⟨rfl, hwb⟩
   rw [hwb]
   clear hwb
   go_wp2_with fail
   go_ret
   exact HF.out
  ·have HCl := hide (HI0.out _ _ hE0 W (.slice ka kn kc) HBW.out HN0.out)
   go_wp2_with fail
   refine HCl.out.mono ?_
   rintro x w2 ⟨z, vI2, vO2, vl2, rfl, hz, hR2, t2, o2⟩
   have HT2 := hide t2
   have HO2 := hide o2
   have HR2 := hide hR2
   clear HCl hR2 t2 o2
   obtain ⟨y0, y1⟩ := HKp.out w2 HT2.out
   obtain rfl : z = x0 := hz _ rfl
   go_wp2_with fail
   refine (spend1 HR2.out hu0 HFu.out).mono ?_
   rintro x w3 ⟨⟨u3, rfl⟩, hR3, t3⟩
   have HT3 := hide (HT2.out.next t3 (fun k hk => .inl (.inl hk)))
   have HR3 := hide hR3
   clear hR3 t3 y0 y1
   obtain ⟨y0, y1⟩ := HKp.out w3 HT3.out
   have hz0 : z ≠ 0 := by rcases hcond with ⟨-, h⟩ | ⟨h, -⟩; exact h; exact absurd h (by decide)
   have hz1 : (z != 0) = true := by simpa using hz0
   rcases hR with ⟨c, hrc, hE1⟩ | ⟨y, hrc, hE1, hu1⟩ | ⟨y, s2, hrc, hs, hE1, hu1⟩
   ·have hcn := HOut.out c hrc
    have HCr := hide (HI1.out _ _ s1 _ _ hE0 hE1 w3 (.slice la ln lc) _ _ HR3.out HN1.out)
    go_wp2_with fail
    refine HCr.out.mono ?_
    rintro x w4 ⟨z4, vI4, vO4, vl4, rfl, hz4, hR4, t4, o4⟩
    have HT4 := hide (HT3.out.next t4 (HnT.out _ HO2.out))
    have HO4 : Hid (∀ k, vO4.ownBlock = some k → vO.ownBlock = some k ∨ W.heap.size ≤ k) := fun k hk => by
     rcases o4 k hk with h | h
     ·exact HO2.out k h
     ·exact .inr (Nat.le_trans HT3.out.size h)
    have HR4 := hide hR4
    clear HCr hR4 t4 o4
    have HFd : Hid (∀ zz X, Below w4.heap.size w4 X → ExP C w lb vL vO r s' (.returned (.int .i64 zz)) X) := fun zz X hX => exp_fin HBW.out (HT4.out.of_below hX) HO4.out (by rw [hrc]; exact HR4.out.below hX) (fun v hv => by rw [hrc] at hv; cases hv)
    go_wp2_with fail
    refine (spendD HR4.out hcn).mono ?_
    rintro x w5 ⟨⟨u5, rfl⟩, hw5⟩
    rw [hw5]
    clear hw5
    by_cases hzz : z4 = 0
    ·subst hzz
     go_wp2_with fail
     refine (bool_any false w4).mono ?_
     rintro x wb ⟨rfl, hwb⟩
     rw [hwb]
     clear hwb
     go_wp2_with fail
     go_ret
     exact HFd.out _ _ (Below.refl _ _)
    ·have hz9 : (z4 != 0) = true := by simpa using hzz
     go_wp2_with fail
     refine (bool_any true w4).mono ?_
     rintro x wb ⟨rfl, hwb⟩
     rw [hwb]
     clear hwb
     go_wp2_with fail
     go_ret
     exact HFd.out _ _ (Below.refl _ _)
   ·have hcn : (2 : Int) ≠ 0 := by decide
    have HCr := hide (HI1.out _ _ s1 _ _ hE0 hE1 w3 (.slice la ln lc) _ _ HR3.out HN1.out)
    go_wp2_with fail
    refine HCr.out.mono ?_
    rintro x w4 ⟨z4, vI4, vO4, vl4, rfl, hz4, hR4, t4, o4⟩
    have HT4 := hide (HT3.out.next t4 (HnT.out _ HO2.out))
    have HO4 : Hid (∀ k, vO4.ownBlock = some k → vO.ownBlock = some k ∨ W.heap.size ≤ k) := fun k hk => by
     rcases o4 k hk with h | h
     ·exact HO2.out k h
     ·exact .inr (Nat.le_trans HT3.out.size h)
    have HR4 := hide hR4
    clear HCr hR4 t4 o4
    obtain rfl : z4 = y := hz4 _ rfl
    go_wp2_with fail
    refine (spend0 HR4.out hu1).mono ?_
    rintro x w5 ⟨⟨u5, rfl⟩, hR5, t5⟩
    have HT5 := hide (HT4.out.next t5 (fun k hk => .inl (.inl hk)))
    have HR5 := hide hR5
    clear hR5 t5
    have HFd : Hid (∀ zz X, Below w5.heap.size w5 X → ExP C w lb vL vO r s' (.returned (.int .i64 zz)) X) := fun zz X hX => exp_fin HBW.out (HT5.out.of_below hX) HO4.out (by rw [hrc]; exact HR5.out.below hX) (fun v hv => by rw [hrc] at hv; cases hv)
    by_cases hzz : z4 = 0
    ·subst hzz
     go_wp2_with fail
     refine (bool_any false w5).mono ?_
     rintro x wb ⟨rfl, hwb⟩
     rw [hwb]
     clear hwb
     go_wp2_with fail
     go_ret
     exact HFd.out _ _ (Below.refl _ _)
    ·have hz9 : (z4 != 0) = true := by simpa using hzz
     go_wp2_with fail
     refine (bool_any true w5).mono ?_
     rintro x wb ⟨rfl, hwb⟩
     rw [hwb]
     clear hwb
     go_wp2_with fail
     go_ret
     exact HFd.out _ _ (Below.refl _ _)
   ·have HCr := hide (HI1.out _ _ s1 _ _ hE0 hE1 w3 (.slice la ln lc) _ _ HR3.out HN1.out)
    go_wp2_with fail
    refine HCr.out.mono ?_
    rintro x w4 ⟨z4, vI4, vO4, vl4, rfl, hz4, hR4, t4, o4⟩
    have HT4 := hide (HT3.out.next t4 (HnT.out _ HO2.out))
    have HO4 : Hid (∀ k, vO4.ownBlock = some k → vO.ownBlock = some k ∨ W.heap.size ≤ k) := fun k hk => by
     rcases o4 k hk with h | h
     ·exact HO2.out k h
     ·exact .inr (Nat.le_trans HT3.out.size h)
    have HR4 := hide hR4
    clear HCr hR4 t4 o4
    obtain rfl : z4 = y := hz4 _ rfl
    go_wp2_with fail
    refine (spend1 HR4.out hu1 HFu.out).mono ?_
    rintro x w5 ⟨⟨u5, rfl⟩, hR5, t5⟩
    have HT5 := hide (HT4.out.next t5 (fun k hk => .inl (.inl hk)))
    have HR5 := hide hR5
    clear hR5 t5
    have HF : Hid (ExP C w lb vL vO r s' (.returned (.int .i64 (boolN (decide (z4 ≠ 0))))) w5) := exp_fin HBW.out HT5.out HO4.out (by rw [hrc, hs]; exact HR5.out) (fun v hv => by rw [hrc] at hv; cases hv; rfl)
    by_cases hzz : z4 = 0
    ·subst hzz
     go_wp2_with fail
     refine (bool_any false w5).mono ?_
     rintro x wb ⟨rfl, hwb⟩
     rw [hwb]
     clear hwb
     go_wp2_with fail
     go_ret
     have := HF.out; simpa using this
    ·have hz9 : (z4 != 0) = true := by simpa using hzz
     go_wp2_with fail
     refine (bool_any true w5).mono ?_
     rintro x wb ⟨rfl, hwb⟩
     rw [hwb]
     clear hwb
     go_wp2_with fail
     go_ret
     have := HF.out; rw [decide_eq_true hzz] at this; exact this
 ·rcases HCs.out with ⟨c, hrc, hE0⟩ | ⟨x0, hrc, hE0, hu0⟩ | ⟨x0, s1, hcond, hrc, hs, hE0, hu0⟩ | ⟨x0, s1, hcond, hE0, hu0, hR⟩
  ·have hcn := HOut.out c hrc
   have HCl := hide (HI0.out _ _ hE0 W (.slice ka kn kc) HBW.out HN0.out)
   go_wp2_with fail
   refine HCl.out.mono ?_
   rintro x w2 ⟨z, vI2, vO2, vl2, rfl, hz, hR2, t2, o2⟩
   have HT2 := hide t2
   have HO2 := hide o2
   have HR2 := hide hR2
   clear HCl hR2 t2 o2
   obtain ⟨y0, y1⟩ := HKp.out w2 HT2.out
   have HFd : Hid (∀ zz X, Below w2.heap.size w2 X → ExP C w lb vL vO r s' (.returned (.int .i64 zz)) X) := fun zz X hX => exp_fin HBW.out (HT2.out.of_below hX) HO2.out (by rw [hrc]; exact HR2.out.below hX) (fun v hv => by rw [hrc] at hv; cases hv)
   go_wp2_with fail
   refine (spendD HR2.out hcn).mono ?_
   rintro x w3 ⟨⟨u3, rfl⟩, hw3⟩
   rw [hw3]
   clear hw3
   by_cases hz0 : z = 0
   ·subst hz0
    go_wp2_with fail
    refine (HDe.out w2 c _ _ _ _ _ hcn HR2.out HN1.out).mono ?_
    rintro x w6 ⟨rfl, hb6⟩
    have HRd6 := hide (HR2.out.below hb6)
    go_wp2_with fail
    refine (spendD HRd6.out hcn).mono ?_
    rintro x w7 ⟨⟨u7, rfl⟩, hw7⟩
    rw [hw7]
    clear hw7
    go_wp2_with fail
    refine (bool_any false w6).mono ?_
    rintro x wb ⟨rfl, hwb⟩
    rw [hwb]
    clear hwb
    go_wp2_with fail
    go_ret
    exact HFd.out _ _ hb6
   ·have hz1 : (z != 0) = true := by simpa using hz0
    go_wp2_with fail
    refine (bool_any true w2).mono ?_
    rintro x wb ⟨rfl, hwb⟩
    rw [hwb]
    clear hwb
    go_wp2_with fail
    go_ret
    exact HFd.out _ _ (Below.refl _ _)
  ·have hcn : (2 : Int) ≠ 0 := by decide
   have HCl := hide (HI0.out _ _ hE0 W (.slice ka kn kc) HBW.out HN0.out)
   go_wp2_with fail
   refine HCl.out.mono ?_
   rintro x w2 ⟨z, vI2, vO2, vl2, rfl, hz, hR2, t2, o2⟩
   have HT2 := hide t2
   have HO2 := hide o2
   have HR2 := hide hR2
   clear HCl hR2 t2 o2
   obtain ⟨y0, y1⟩ := HKp.out w2 HT2.out
   obtain rfl : z = x0 := hz _ rfl
   go_wp2_with fail
   refine (spend0 HR2.out hu0).mono ?_
   rintro x w3 ⟨⟨u3, rfl⟩, hR3, t3⟩
   have HT3 := hide (HT2.out.next t3 (fun k hk => .inl (.inl hk)))
   have HR3 := hide hR3
   clear hR3 t3 y0 y1
   obtain ⟨y0, y1⟩ := HKp.out w3 HT3.out
   have HFd : Hid (∀ zz X, Below w3.heap.size w3 X → ExP C w lb vL vO r s' (.returned (.int .i64 zz)) X) := fun zz X hX => exp_fin HBW.out (HT3.out.of_below hX) HO2.out (by rw [hrc]; exact HR3.out.below hX) (fun v hv => by rw [hrc] at hv; cases hv)
   by_cases hz0 : z = 0
   ·subst hz0
    go_wp2_with fail
    refine (HDe.out w3 2 _ _ _ _ _ hcn HR3.out HN1.out).mono ?_
    rintro x w6 ⟨rfl, hb6⟩
    have HRd6 := hide (HR3.out.below hb6)
    go_wp2_with fail
    refine (spendD HRd6.out hcn).mono ?_
    rintro x w7 ⟨⟨u7, rfl⟩, hw7⟩
    rw [hw7]
    clear hw7
    go_wp2_with fail
    refine (bool_any false w6).mono ?_
    rintro x wb ⟨rfl, hwb⟩
    rw [hwb]
    clear hwb
    go_wp2_with fail
    go_ret
    exact HFd.out _ _ hb6
   ·have hz1 : (z != 0) = true := by simpa using hz0
    go_wp2_with fail
    refine (bool_any true w3).mono ?_
    rintro x wb ⟨rfl, hwb⟩
    rw [hwb]
    clear hwb
    go_wp2_with fail
    go_ret
    exact HFd.out _ _ (Below.refl _ _)
  ·have HCl := hide (HI0.out _ _ hE0 W (.slice ka kn kc) HBW.out HN0.out)
   go_wp2_with fail
   refine HCl.out.mono ?_
   rintro x w2 ⟨z, vI2, vO2, vl2, rfl, hz, hR2, t2, o2⟩
   have HT2 := hide t2
   have HO2 := hide o2
   have HR2 := hide hR2
   clear HCl hR2 t2 o2
   obtain ⟨y0, y1⟩ := HKp.out w2 HT2.out
   obtain rfl : z = x0 := hz _ rfl
   go_wp2_with fail
   refine (spend1 HR2.out hu0 HFu.out).mono ?_
   rintro x w3 ⟨⟨u3, rfl⟩, hR3, t3⟩
   have HT3 := hide (HT2.out.next t3 (fun k hk => .inl (.inl hk)))
   have HR3 := hide hR3
   clear hR3 t3 y0 y1
   obtain ⟨y0, y1⟩ := HKp.out w3 HT3.out
   have hz0 : z ≠ 0 := by rcases hcond with ⟨h, -⟩ | ⟨-, h⟩; exact absurd h (by decide); exact h
   have hz1 : (z != 0) = true := by simpa using hz0
   have hz2 : decide (z ≠ 0) = true := decide_eq_true hz0
   rw [hz2] at hrc
   have HF := hide (exp_fin (z := boolN true) HBW.out HT3.out HO2.out (r := r) (s' := s') (by rw [hrc, hs]; exact HR3.out) (fun v hv => by rw [hrc] at hv; cases hv; rfl))
   clear hrc hs
   go_wp2_with fail
   refine (bool_any true w3).mono ?_
   rintro x wb ⟨rfl, hwb⟩
   rw [hwb]
   clear hwb
   go_wp2_with fail
   go_ret
   exact HF.out
  ·have HCl := hide (HI0.out _ _ hE0 W (.slice ka kn kc) HBW.out HN0.out)
   go_wp2_with fail
   refine HCl.out.mono ?_
   rintro x w2 ⟨z, vI2, vO2, vl2, rfl, hz, hR2, t2, o2⟩
   have HT2 := hide t2
   have HO2 := hide o2
   have HR2 := hide hR2
   clear HCl hR2 t2 o2
   obtain ⟨y0, y1⟩ := HKp.out w2 HT2.out
   obtain rfl : z = x0 := hz _ rfl
   go_wp2_with fail
   refine (spend1 HR2.out hu0 HFu.out).mono ?_
   rintro x w3 ⟨⟨u3, rfl⟩, hR3, t3⟩
   have HT3 := hide (HT2.out.next t3 (fun k hk => .inl (.inl hk)))
   have HR3 := hide hR3
   clear hR3 t3 y0 y1
   obtain ⟨y0, y1⟩ := HKp.out w3 HT3.out
   have hz0 : z = 0 := by rcases hcond with ⟨h, -⟩ | ⟨-, h⟩; exact absurd h (by decide); exact h
   subst hz0
   rcases hR with ⟨c, hrc, hE1⟩ | ⟨y, hrc, hE1, hu1⟩ | ⟨y, s2, hrc, hs, hE1, hu1⟩
   ·have hcn := HOut.out c hrc
    have HCr := hide (HI1.out _ _ s1 _ _ hE0 hE1 w3 (.slice la ln lc) _ _ HR3.out HN1.out)
    go_wp2_with fail
    refine HCr.out.mono ?_
    rintro x w4 ⟨z4, vI4, vO4, vl4, rfl, hz4, hR4, t4, o4⟩
    have HT4 := hide (HT3.out.next t4 (HnT.out _ HO2.out))
    have HO4 : Hid (∀ k, vO4.ownBlock = some k → vO.ownBlock = some k ∨ W.heap.size ≤ k) := fun k hk => by
     rcases o4 k hk with h | h
     ·exact HO2.out k h
     ·exact .inr (Nat.le_trans HT3.out.size h)
    have HR4 := hide hR4
    clear HCr hR4 t4 o4
    have HFd : Hid (∀ zz X, Below w4.heap.size w4 X → ExP C w lb vL vO r s' (.returned (.int .i64 zz)) X) := fun zz X hX => exp_fin HBW.out (HT4.out.of_below hX) HO4.out (by rw [hrc]; exact HR4.out.below hX) (fun v hv => by rw [hrc] at hv; cases hv)
    go_wp2_with fail
    refine (spendD HR4.out hcn).mono ?_
    rintro x w5 ⟨⟨u5, rfl⟩, hw5⟩
    rw [hw5]
    clear hw5
    by_cases hzz : z4 = 0
    ·subst hzz
     go_wp2_with fail
     refine (bool_any false w4).mono ?_
     rintro x wb ⟨rfl, hwb⟩
     rw [hwb]
     clear hwb
     go_wp2_with fail
     go_ret
     exact HFd.out _ _ (Below.refl _ _)
    ·have hz9 : (z4 != 0) = true := by simpa using hzz
     go_wp2_with fail
     refine (bool_any true w4).mono ?_
     rintro x wb ⟨rfl, hwb⟩
     rw [hwb]
     clear hwb
     go_wp2_with fail
     go_ret
     exact HFd.out _ _ (Below.refl _ _)
   ·have hcn : (2 : Int) ≠ 0 := by decide
    have HCr := hide (HI1.out _ _ s1 _ _ hE0 hE1 w3 (.slice la ln lc) _ _ HR3.out HN1.out)
    go_wp2_with fail
    refine HCr.out.mono ?_
    rintro x w4 ⟨z4, vI4, vO4, vl4, rfl, hz4, hR4, t4, o4⟩
    have HT4 := hide (HT3.out.next t4 (HnT.out _ HO2.out))
    have HO4 : Hid (∀ k, vO4.ownBlock = some k → vO.ownBlock = some k ∨ W.heap.size ≤ k) := fun k hk => by
     rcases o4 k hk with h | h
     ·exact HO2.out k h
     ·exact .inr (Nat.le_trans HT3.out.size h)
    have HR4 := hide hR4
    clear HCr hR4 t4 o4
    obtain rfl : z4 = y := hz4 _ rfl
    go_wp2_with fail
    refine (spend0 HR4.out hu1).mono ?_
    rintro x w5 ⟨⟨u5, rfl⟩, hR5, t5⟩
    have HT5 := hide (HT4.out.next t5 (fun k hk => .inl (.inl hk)))
    have HR5 := hide hR5
    clear hR5 t5
    have HFd : Hid (∀ zz X, Below w5.heap.size w5 X → ExP C w lb vL vO r s' (.returned (.int .i64 zz)) X) := fun zz X hX => exp_fin HBW.out (HT5.out.of_below hX) HO4.out (by rw [hrc]; exact HR5.out.below hX) (fun v hv => by rw [hrc] at hv; cases hv)
    by_cases hzz : z4 = 0
    ·subst hzz
     go_wp2_with fail
     refine (bool_any false w5).mono ?_
     rintro x wb ⟨rfl, hwb⟩
     rw [hwb]
     clear hwb
     go_wp2_with fail
     go_ret
     exact HFd.out _ _ (Below.refl _ _)
    ·have hz9 : (z4 != 0) = true := by simpa using hzz
     go_wp2_with fail
     refine (bool_any true w5).mono ?_
     rintro x wb ⟨rfl, hwb⟩
     rw [hwb]
     clear hwb
     go_wp2_with fail
     go_ret
     exact HFd.out _ _ (Below.refl _ _)
   ·have HCr := hide (HI1.out _ _ s1 _ _ hE0 hE1 w3 (.slice la ln lc) _ _ HR3.out HN1.out)
    go_wp2_with fail
    refine HCr.out.mono ?_
    rintro x w4 ⟨z4, vI4, vO4, vl4, rfl, hz4, hR4, t4, o4⟩
    have HT4 := hide (HT3.out.next t4 (HnT.out _ HO2.out))
    have HO4 : Hid (∀ k, vO4.ownBlock = some k → vO.ownBlock = some k ∨ W.heap.size ≤ k) := fun k hk => by
     rcases o4 k hk with h | h
     ·exact HO2.out k h
     ·exact .inr (Nat.le_trans HT3.out.size h)
    have HR4 := hide hR4
    clear HCr hR4 t4 o4
    obtain rfl : z4 = y := hz4 _ rfl
    go_wp2_with fail
    refine (spend1 HR4.out hu1 HFu.out).mono ?_
    rintro x w5 ⟨⟨u5, rfl⟩, hR5, t5⟩
    have HT5 := hide (HT4.out.next t5 (fun k hk => .inl (.inl hk)))
    have HR5 := hide hR5
    clear hR5 t5
    have HF : Hid (ExP C w lb vL vO r s' (.returned (.int .i64 (boolN (decide (z4 ≠ 0))))) w5) := exp_fin HBW.out HT5.out HO4.out (by rw [hrc, hs]; exact HR5.out) (fun v hv => by rw [hrc] at hv; cases hv; rfl)
    by_cases hzz : z4 = 0
    ·subst hzz
     go_wp2_with fail
     refine (bool_any false w5).mono ?_
     rintro x wb ⟨rfl, hwb⟩
     rw [hwb]
     clear hwb
     go_wp2_with fail
     go_ret
     have := HF.out; simpa using this
    ·have hz9 : (z4 != 0) = true := by simpa using hzz
     go_wp2_with fail
     refine (bool_any true w5).mono ?_
     rintro x wb ⟨rfl, hwb⟩
     rw [hwb]
     clear hwb
     go_wp2_with fail
     go_ret
     have := HF.out; rw [decide_eq_true hzz] at this; exact this
theorem exS_step (C : RC) (hC : C.Ok) (n : Nat) (IH : ExS C n) (IC : CaS C n) : ExS C (n + 1) := by
 intro e s r s' hE hkn hsc h1 hl1 w vl lb vL vI vO ve h hN
 by_cases hk : (rootN e).kind = 8 ∨ (rootN e).kind = 9
 ·exact exS_sides C hC n IH e s r s' hE hk hkn hsc h1 hl1 w vl lb vL vI vO ve h hN
 ·exact exS_plain C hC n IH IC e s r s' hE (fun h => hk (.inl h)) (fun h => hk (.inr h)) hkn hsc h1 hl1 w vl lb vL vI vO ve h hN
end
section
open Go.RowKit
def PaP (C : RC) (w : World) (lb : List Nat) (vL vO : Value) (r : ER) (s' : ES) (x : Ending) (w' : World) : Prop := (∃ y, x = .returned y) ∧ ∃ lb' vL' vI' vO' vl', RS C w' (stR r) (rtR r) vl' lb' vL' vI' vO' s' ∧ (∀ v, r = .ret v → vl' = v) ∧ (∃ m, lb' = lb ++ m ∧ ∀ b ∈ m, w.heap.size ≤ b) ∧ Tcs (TSx C lb vL vO) w w' ∧ (∀ k, vO'.ownBlock = some k → vO.ownBlock = some k ∨ w.heap.size ≤ k) ∧ ∀ k, vL'.ownBlock = some k → vL.ownBlock = some k ∨ w.heap.size ≤ k
theorem RS.st {C : RC} {w : World} {c : Int} {rt : Bool} {vl : Int} {lb : List Nat} {vL vI vO : Value} {s : ES} {x : ByteArray} {vv : Value} {b : Nat} {n m : Nat} (h : RS C w c rt vl lb vL vI vO s) (hC : C.Ok) (hF : FindV C lb s x vv) (hk : x ∉ s.l.map Prod.fst) (hg : 0 ≤ globI C.t.globals x) (hv : vv = .slice (some ⟨b, 0, none⟩) n m) (j : Nat) {v : Int} (hi : inB v) : RS C (w.setCell ⟨b, j, none⟩ (.int .i64 v)) c rt vl lb vL vI vO (s.st C.t x j v) := by
 obtain ⟨k, hkl, h1, h2⟩ := gix_glob hg
 have hkb : k < C.gb.length := by rw [hC.gbl]; exact hkl
 have e1 : C.gb.getD k 0 = C.gb[k] := by simp [List.getD, hkb]
 have := hF.2 (lix_no hk) k h1
 rw [hv, e1] at this
 simp only [Value.slice.injEq, Option.some.injEq, Addr.mk.injEq] at this
 obtain ⟨⟨rfl, -⟩, -⟩ := this
 have hs : s.st C.t x j v = { s with g := s.g.set k ((s.g.getD k []).set j v) } := by unfold ES.st; rw [h1]
 exact h.wg k j hkb hs (st_ok h.ok x j hi)
theorem ev_store {t : Tr} {fr : List Int} {n : Nat} {s : St} {a b : List St} {z : ES} {r : ER} {z' : ES} (h : Ev t fr (n + 1) (.p s a b) z r z') (hk : s.kind = 3) : (∃ c, r = .out c ∧ Ev t fr n (.e s.e) z (.out c) z') ∨ ∃ v z1, Ev t fr n (.e s.e) z (.val v) z1 ∧ ((∃ c, r = .out c ∧ Ev t fr n (.e s.f) z1 (.out c) z') ∨ ∃ x z2, Ev t fr n (.e s.f) z1 (.val x) z2 ∧ ((¬ (0 ≤ v ∧ v < (z2.ws t s.name).length) ∧ r = .out 3 ∧ z' = z2) ∨ ((0 ≤ v ∧ v < (z2.ws t s.name).length) ∧ r = .on ∧ z' = z2.st t s.name v.toNat x))) := by
 cases h using Ev_i with
 | pbad _ _ _ _ _ c _ h1 => exact .inl ⟨c, rfl, h1⟩
 | sbad _ _ _ _ _ v z1 c _ h1 h2 h3 => exact .inr ⟨v, z1, h2, .inl ⟨c, rfl, h3⟩⟩
 | smis _ _ _ _ _ v z1 x _ h1 h2 h3 h4 => exact .inr ⟨v, z1, h2, .inr ⟨x, _, h3, .inl ⟨h4, rfl, rfl⟩⟩⟩
 | stor _ _ _ _ _ v z1 x _ h1 h2 h3 h4 => exact .inr ⟨v, z1, h2, .inr ⟨x, _, h3, .inr ⟨h4, rfl, rfl⟩⟩⟩
 | decl _ _ _ _ _ _ _ h1 => omega
 | set _ _ _ _ _ _ _ h1 => omega
 | ifth _ _ _ _ _ _ _ _ _ h1 => omega
 | ifel _ _ _ _ _ _ _ _ h1 => omega
 | whno _ _ _ _ _ _ h1 => omega
 | whn _ _ _ _ _ _ _ _ _ h1 => omega
 | whdr _ _ _ _ _ _ _ _ h1 => omega
 | whag _ _ _ _ _ _ _ _ _ _ h1 => omega
 | retn _ _ _ _ _ _ _ h1 => omega
 | tell _ _ _ _ _ _ _ h1 => omega
 | only _ _ _ _ _ _ _ h1 => omega
theorem TEx.up {C : RC} {w : World} {lb : List Nat} {vL vO vO1 : Value} (ho : ∀ k, vO1.ownBlock = some k → vO.ownBlock = some k ∨ w.heap.size ≤ k) : ∀ k, TEx C vO1 k → TSx C lb vL vO k ∨ w.heap.size ≤ k := fun k hk => by
 rcases hk with rfl | hk | hk
 ·exact .inl (.inl (.inl rfl))
 ·exact .inl (.inl (.inr (.inl hk)))
 ·exact (ho k hk).imp_left (fun h => .inl (.inr (.inr h)))
set_option maxRecDepth 100000 in
set_option maxHeartbeats 8000000 in
theorem stS_store (C : RC) (hC : C.Ok) (n : Nat) (IH : ExS C n) (s : St) (a b : List St) (z : ES) (r : ER) (z' : ES) (hE : Ev C.t C.fr (n + 1) (.p s a b) z r z') (hk : s.kind = 3) (hKn : KnP C.t (z.l.map Prod.fst) s) (hsc : Scp C.t (z.l.map Prod.fst)) (h1 : oneB s.e = true) (h2 : oneB s.f = true) (hl1 : s.e.length ≤ 1048576) (hl2 : s.f.length ≤ 1048576)
  (w : World) (vl : Int) (lb : List Nat) (vL vI vO ve vf : Value) (vt vu : Int) (h : RS C w 0 false vl lb vL vI vO z) (hNe : Nodes C.w0 ve s.e) (hNf : Nodes C.w0 vf s.f) :
  Calls Tryd.prog 71 #[.pointer (some ⟨C.P, 0, none⟩), .agg #[.int .i64 s.kind, .string s.name, ve, vf, .int .i64 vt, .int .i64 vu]] w fun x w' => PaP C w lb vL vO r z' x w' := by
 have hk0 : Hid (s.kind = 3) := hk
 rw [hk]
 obtain ⟨ea, en, ec, rfl⟩ : ∃ ea en ec, ve = .slice ea en ec := ⟨_, _, _, hNe.choose_spec.choose_spec.1⟩
 obtain ⟨fa, fn, fc, rfl⟩ : ∃ fa fn fc, vf = .slice fa fn fc := ⟨_, _, _, hNf.choose_spec.choose_spec.1⟩
 obtain ⟨W, hW⟩ : ∃ W, W = w.alloc (.cells #[.int .i64 3, .string s.name, .slice ea en ec, .slice fa fn fc, .int .i64 vt, .int .i64 vu] 34) := ⟨_, rfl⟩
 obtain ⟨B, hB⟩ : ∃ B, B = w.heap.size := ⟨_, rfl⟩
 have hbW : Below w.heap.size w W := by rw [hW]; exact (Below.refl _ _).alloc (Nat.le_refl _) _
 have hBW : B < W.heap.size := by rw [hW, hB, World.size_alloc]; omega
 have hfr : FrC W B [.int .i64 3, .string s.name, .slice ea en ec, .slice fa fn fc, .int .i64 vt, .int .i64 vu] := by
  rw [hW, hB]
  exact box_fr w #[.int .i64 3, .string s.name, .slice ea en ec, .slice fa fn fc, .int .i64 vt, .int .i64 vu] _ (by show 6 ≤ 1000; omega)
 have hRW := h.below hbW
 have hT0 : ∀ k, TEx C vO k → k < B := fun k hk => by rw [hB]; exact (TEx.lt h k hk).1
 -- the first expression
 have key : ∀ (r1 : ER) (z1 : ES), Ev C.t C.fr n (.e s.e) z r1 z1 → Calls Tryd.prog 83 #[.pointer (some ⟨C.P, 0, none⟩), .slice ea en ec] W fun x w' => ExP C W lb vL vO r1 z1 x w' := fun r1 z1 h1' => IH s.e z r1 z1 h1' hKn.e hsc h1 hl1 W vl lb vL vI vO _ hRW hNe
 have HO := hide (fun (r1 : ER) (z1 : ES) (h' : Ev C.t C.fr n (.e s.e) z r1 z1) => h'.inv h.ok trivial)
 have HC := hide hC
 have HKn := hide hKn
 have HSc := hide hsc
 have HIH := hide IH
 have HNf := hide hNf
 have H2 := hide h2
 have HL2 := hide hl2
 have HB := hide hB
 have HbW := hide hbW
 have HT0 := hide hT0
 have HBW := hide hBW
 have HFr := hide hfr
 have g1 := (hfr 1 _ rfl).1
 have g2 := (hfr 2 _ rfl).1
 have g3 := (hfr 3 _ rfl).1
 have HH := hide h
 -- what is told at the end
 have HFin : Hid (∀ (w' : World) (r : ER) (z' : ES) (vI' vO' : Value) (vl' : Int), RS C w' (stR r) (rtR r) vl' lb vL vI' vO' z' → (∀ v, r = .ret v → vl' = v) → Tcs (TSx C lb vL vO) W w' → (∀ k, vO'.ownBlock = some k → vO.ownBlock = some k ∨ w.heap.size ≤ k) → PaP C w lb vL vO r z' (.returned (.tuple #[])) w') := fun w' r z' vI' vO' vl' hR hv ht ho => ⟨⟨_, rfl⟩, lb, vL, vI', vO', vl', hR, hv, ⟨[], by simp, fun b hb => by simp at hb⟩, (hbW.tcs (S := TSx C lb vL vO)).next ht (fun k hk => .inl hk), ho, fun k hk => .inl hk⟩
 rcases ev_store hE hk with ⟨c, rfl, e1⟩ | ⟨v, z1, e1, hrest⟩
 ·have hc0 : (c == 0) = false := by rcases e1.outc c rfl with rfl | rfl <;> rfl
  have hc1 : (c != 0) = true := by rcases e1.outc c rfl with rfl | rfl <;> rfl
  have HCl := hide (key _ _ e1)
  clear key HO HC HKn HSc HIH HNf H2 HL2 hE hC hKn hsc IH h1 h2 hl1 hl2 hNe hNf hRW hT0 hfr h hbW e1 g1 g3 hk
  go_enter Tryd.func71, Tryd.ntmps71
  go_wp2_with fail
  rw [← hW, ← hB]
  clear hB hW
  refine HCl.out.mono ?_
  rintro x w1 ⟨z0, vI1, vO1, vl1, rfl, -, hR1, t1, ho1⟩
  have y8 := (hR1.box 8 _ rfl).1
  simp only [stR] at y8
  have HF := hide (HFin.out w1 (.out c) z' vI1 vO1 vl1 hR1 (fun v hv => by cases hv) ((Tcs.refl (TSx C lb vL vO) W).next t1 (TEx.up (fun k hk => .inl hk))) (fun k hk => (ho1 k hk).imp_right (fun h1 => Nat.le_trans HbW.out.size h1)))
  clear hR1 t1 ho1
  go_wp2_with fail
  exact bodyPost_ret (v := .tuple #[]) (by simp [results, Tryd.results71, go_sem]) rfl HF.out
 ·have HCl := hide (key _ _ e1)
  obtain ⟨o1, v1, s1⟩ := HO.out _ _ e1
  have hz1 : z1.l = z.l := s1.2.2.2
  have key2 : ∀ (w1 : World) (vl1 : Int) (vI1 vO1 : Value), RS C w1 0 false vl1 lb vL vI1 vO1 z1 → ∀ (r2 : ER) (z2 : ES), Ev C.t C.fr n (.e s.f) z1 r2 z2 → Calls Tryd.prog 83 #[.pointer (some ⟨C.P, 0, none⟩), .slice fa fn fc] w1 fun x w' => ExP C w1 lb vL vO1 r2 z2 x w' := fun w1 vl1 vI1 vO1 hR1 r2 z2 h2' => IH s.f z1 r2 z2 h2' (by rw [hz1]; exact hKn.f) (by rw [hz1]; exact hsc) h2 hl2 w1 vl1 lb vL vI1 vO1 _ hR1 hNf
  have HK2 := hide key2
  have HO1 := hide o1
  have HZ1 := hide hz1
  have HRe := hide hrest
  clear key HO HIH HNf H2 HL2 hE hC hKn hsc IH h1 h2 hl1 hl2 hNe hNf hRW hT0 hfr h hbW e1 g1 g3 hk key2 o1 v1 s1 hz1 hrest
  go_enter Tryd.func71, Tryd.ntmps71
  go_wp2_with fail
  rw [← hW, ← hB]
  clear hB hW
  refine HCl.out.mono ?_
  rintro x w1 ⟨z0, vI1, vO1, vl1, rfl, hz, hR1, t1, ho1⟩
  obtain rfl : v = z0 := (hz v rfl).symm
  clear hz
  have y8 := (hR1.box 8 _ rfl).1
  simp only [stR] at y8 hR1
  have hfr1 := HFr.out.tcs HBW.out t1 (fun hx => by have := HT0.out _ hx; omega)
  have HT1 := hide t1
  have g1 := (hfr1 1 _ rfl).1
  have g3 := (hfr1 3 _ rfl).1
  have HFr1 := hide hfr1
  have HOw := hide ho1
  have HBs := hide (Nat.lt_of_lt_of_le HBW.out t1.size)
  have HT1' := hide ((Tcs.refl (TSx C lb vL vO) W).next t1 (TEx.up (fun k hk => .inl hk)))
  have HB1 : Hid (∀ k, TEx C vO1 k → k ≠ B) := fun k hk e => by
   rcases hk with hk | hk | hk
   ·have := HT0.out k (.inl hk); omega
   ·have := HT0.out k (.inr (.inl hk)); omega
   ·rcases ho1 k hk with h1 | h1
    ·have := HT0.out k (.inr (.inr h1)); omega
    ·have := HBW.out; omega
  have hup : ∀ k, TEx C vO1 k → TSx C lb vL vO k ∨ W.heap.size ≤ k := TEx.up ho1
  have HUp := hide hup
  rcases HRe.out with ⟨c, rfl, e2⟩ | ⟨q, z2, e2, hr⟩
  ·have hc0 : (c == 0) = false := by rcases e2.outc c rfl with rfl | rfl <;> rfl
   have hc1 : (c != 0) = true := by rcases e2.outc c rfl with rfl | rfl <;> rfl
   have HC2 := hide (HK2.out w1 vl1 vI1 vO1 hR1 _ _ e2)
   clear hR1 t1 ho1 hfr1 hup e2 HK2 HRe
   go_wp2_with fail
   refine HC2.out.mono ?_
   rintro x w2 ⟨z3, vI2, vO2, vl2, rfl, -, hR2, t2, ho2⟩
   have y8 := (hR2.box 8 _ rfl).1
   simp only [stR] at y8
   have HF := hide (HFin.out w2 (.out c) z' vI2 vO2 vl2 hR2 (fun v hv => by cases hv) (HT1'.out.next t2 HUp.out) (fun k hk => by
    rcases ho2 k hk with h1 | h1
    ·exact (HOw.out k h1).imp_right (fun h1 => Nat.le_trans HbW.out.size h1)
    ·exact .inr (Nat.le_trans (Nat.le_trans HbW.out.size HT1.out.size) h1)))
   clear hR2 t2 ho2
   go_wp2_with fail
   exact bodyPost_ret (v := .tuple #[]) (by simp [results, Tryd.results71, go_sem]) rfl HF.out
  ·have HC2 := hide (HK2.out w1 vl1 vI1 vO1 hR1 _ _ e2)
   obtain ⟨o2, v2, s2⟩ := e2.inv HO1.out trivial
   have hz2 : z2.l = z.l := s2.2.2.2.trans HZ1.out
   have HZ2 := hide hz2
   have HQ := hide (v2 q (.inl rfl))
   have HR := hide hr
   clear hR1 t1 ho1 hfr1 hup e2 HK2 HRe o2 v2 s2 hz2 hr
   go_wp2_with fail
   refine HC2.out.mono ?_
   rintro x w2 ⟨z3, vI2, vO2, vl2, rfl, hz, hR2, t2, ho2⟩
   obtain rfl : q = z3 := (hz q rfl).symm
   clear hz
   have y8 := (hR2.box 8 _ rfl).1
   simp only [stR] at y8 hR2
   have hfr2 := HFr1.out.tcs HBs.out t2 (fun hx => HB1.out _ hx rfl)
   have g1 := (hfr2 1 _ rfl).1
   have HT2 := hide (HT1'.out.next t2 HUp.out)
   have HO2 : Hid (∀ k, vO2.ownBlock = some k → vO.ownBlock = some k ∨ w.heap.size ≤ k) := fun k hk => by
    rcases ho2 k hk with h1 | h1
    ·exact (HOw.out k h1).imp_right (fun h1 => Nat.le_trans HbW.out.size h1)
    ·exact .inr (Nat.le_trans (Nat.le_trans HbW.out.size HT1.out.size) h1)
   have HR2 := hide hR2
   clear hR2 t2 ho2 hfr2
   go_wp2_with fail
   obtain ⟨hnn, hgp⟩ := HKn.out.store hk0.out
   refine (find_any s.name HR2.out HC.out (by rw [HZ2.out]; exact HSc.out.1)).mono ?_
   rintro x w3 ⟨vv, rfl, hF, hb3⟩
   have hnn' : s.name ∉ z2.l.map Prod.fst := by rw [HZ2.out]; exact hnn
   obtain ⟨bw, hvv, hn0, hn1, hbl, hbm, hcs⟩ := find_arr HR2.out HC.out hF hnn' (by omega)
   have hR3 := HR2.out.below hb3
   have HSt := hide (fun (k : Nat) => hR3.st HC.out hF hnn' (by omega) hvv k HQ.out)
   subst hvv
   have y8 := (hR3.box 8 _ rfl).1
   have z8 := (hR3.box 8 _ rfl).2
   have HR3 := hide hR3
   have HT3 := hide (HT2.out.of_below hb3)
   obtain ⟨wl, hwl⟩ : ∃ wl, wl = (z2.ws C.t s.name).length := ⟨_, rfl⟩
   have hr := HR.out
   rw [← hwl] at hn0 hn1 hcs hr ⊢
   clear hR3 hF hwl
   rcases hr with ⟨hin, rfl, rfl⟩ | ⟨hin, rfl, rfl⟩
   ·have hdec : decide ((0 : Int) ≤ v ∧ v ≤ (wl : Int) - 1) = false := decide_eq_false (by omega)
    have HF := hide (HFin.out (w3.setCell ⟨C.P, 8, none⟩ (.int .i64 3)) (.out 3) z' vI2 vO2 vl2 (HR3.out.dry 3) (fun v hv => by cases hv) (HT3.out.setCell (p := ⟨C.P, 8, none⟩) (.inl (.inl rfl)) _) HO2.out)
    clear hcs hb3 HSt HR
    go_wp2_with fail
    refine (in_any _ _ _ _).mono ?_
    rintro x w4 ⟨rfl, hw4⟩
    rw [hw4, hdec]
    clear hw4
    go_wp2_with fail
    exact bodyPost_ret (v := .tuple #[]) (by simp [results, Tryd.results71, go_sem]) rfl HF.out
   ·obtain ⟨k, rfl⟩ : ∃ k : Nat, v = k := ⟨v.toNat, by omega⟩
    have hkl : k < wl := by omega
    have hck := (hb3.cell (p := ⟨bw, k, none⟩) hbl).trans (hcs k hkl).1
    have hfk := (hb3.frozen (p := ⟨bw, k, none⟩) hbl).trans (hcs k hkl).2
    have hdec : decide ((0 : Int) ≤ (k : Int) ∧ (k : Int) ≤ (wl : Int) - 1) = true := decide_eq_true (by omega)
    have HF := hide (HFin.out (w3.setCell ⟨bw, k, none⟩ (.int .i64 q)) .on (z2.st C.t s.name k q) vI2 vO2 vl2 (HSt.out k) (fun v hv => by cases hv) (HT3.out.setCell (p := ⟨bw, k, none⟩) (.inl (.inr (.inl hbm))) _) HO2.out)
    clear hcs hb3 HSt HR
    go_wp2_with fail
    refine (in_any _ _ _ _).mono ?_
    rintro x w4 ⟨rfl, hw4⟩
    rw [hw4, hdec]
    clear hw4
    go_wp2_with fail
    exact bodyPost_end (v := .tuple #[]) (by simp [results, Tryd.results71, go_sem]) rfl HF.out
end
section
open Go.RowKit
def Wh (t : Tr) (fr : List Int) (n : Nat) (s : St) (a b : List St) (v : Int) (z1 : ES) (r : ER) (z' : ES) : Prop := (v = 0 ∧ r = .on ∧ z' = z1) ∨ (v ≠ 0 ∧ ∃ rb zb, Ev t fr n (.bl a) z1 rb zb ∧ ((rb ≠ .on ∧ r = rb ∧ z' = zb) ∨ (rb = .on ∧ zb.u = 0 ∧ r = .out 2 ∧ z' = zb) ∨ (rb = .on ∧ 0 < zb.u ∧ Ev t fr n (.p s a b) zb.sp r z')))
theorem ev_stmt {t : Tr} {fr : List Int} {n : Nat} {s : St} {a b : List St} {z : ES} {r : ER} {z' : ES} (h : Ev t fr (n + 1) (.p s a b) z r z') (hk : s.kind ≠ 3) : (∃ c, r = .out c ∧ Ev t fr n (.e s.e) z (.out c) z') ∨ ∃ v z1, Ev t fr n (.e s.e) z (.val v) z1 ∧ ((s.kind = 1 ∧ r = .on ∧ z' = { z1 with l := z1.l ++ [(s.name, v)] }) ∨ (s.kind = 2 ∧ r = .on ∧ z' = z1.wr t s.name v) ∨ (s.kind = 6 ∧ r = .ret v ∧ z' = z1) ∨ (s.kind = 7 ∧ r = .on ∧ z' = { z1 with o := z1.o ++ [v] }) ∨ (s.kind = 8 ∧ r = .on ∧ z' = z1) ∨ (s.kind = 4 ∧ (v ≠ 0 ∧ Ev t fr n (.bl a) z1 r z' ∨ v = 0 ∧ Ev t fr n (.bl b) z1 r z')) ∨ (s.kind = 5 ∧ Wh t fr n s a b v z1 r z')) := by
 cases h using Ev_i with
 | pbad _ _ _ _ _ c _ h1 => exact .inl ⟨c, rfl, h1⟩
 | sbad _ _ _ _ _ v z1 c _ h1 h2 h3 => exact absurd h1 hk
 | smis _ _ _ _ _ v z1 x _ h1 h2 h3 h4 => exact absurd h1 hk
 | stor _ _ _ _ _ v z1 x _ h1 h2 h3 h4 => exact absurd h1 hk
 | decl _ _ _ _ _ v z1 h1 h2 => exact .inr ⟨v, z1, h2, .inl ⟨h1, rfl, rfl⟩⟩
 | set _ _ _ _ _ v z1 h1 h2 => exact .inr ⟨v, z1, h2, .inr (.inl ⟨h1, rfl, rfl⟩)⟩
 | ifth _ _ _ _ _ v z1 _ _ h1 h2 h3 h4 => exact .inr ⟨v, z1, h2, .inr (.inr (.inr (.inr (.inr (.inl ⟨h1, .inl ⟨h3, h4⟩⟩)))))⟩
 | ifel _ _ _ _ _ z1 _ _ h1 h2 h3 => exact .inr ⟨0, z1, h2, .inr (.inr (.inr (.inr (.inr (.inl ⟨h1, .inr ⟨rfl, h3⟩⟩)))))⟩
 | whno _ _ _ _ _ z1 h1 h2 => exact .inr ⟨0, _, h2, .inr (.inr (.inr (.inr (.inr (.inr ⟨h1, .inl ⟨rfl, rfl, rfl⟩⟩)))))⟩
 | whn _ _ _ _ _ v z1 _ _ h1 h2 h3 h4 h5 => exact .inr ⟨v, z1, h2, .inr (.inr (.inr (.inr (.inr (.inr ⟨h1, .inr ⟨h3, _, _, h4, .inl ⟨h5, rfl, rfl⟩⟩⟩)))))⟩
 | whdr _ _ _ _ _ v z1 _ h1 h2 h3 h4 h5 => exact .inr ⟨v, z1, h2, .inr (.inr (.inr (.inr (.inr (.inr ⟨h1, .inr ⟨h3, _, _, h4, .inr (.inl ⟨rfl, h5, rfl, rfl⟩)⟩⟩)))))⟩
 | whag _ _ _ _ _ v z1 z2 _ _ h1 h2 h3 h4 h5 h6 => exact .inr ⟨v, z1, h2, .inr (.inr (.inr (.inr (.inr (.inr ⟨h1, .inr ⟨h3, _, _, h4, .inr (.inr ⟨rfl, h5, h6⟩)⟩⟩)))))⟩
 | retn _ _ _ _ _ v z1 h1 h2 => exact .inr ⟨v, _, h2, .inr (.inr (.inl ⟨h1, rfl, rfl⟩))⟩
 | tell _ _ _ _ _ v z1 h1 h2 => exact .inr ⟨v, z1, h2, .inr (.inr (.inr (.inl ⟨h1, rfl, rfl⟩)))⟩
 | only _ _ _ _ _ v z1 h1 h2 => exact .inr ⟨v, _, h2, .inr (.inr (.inr (.inr (.inl ⟨h1, rfl, rfl⟩))))⟩
theorem RS.wr {C : RC} {w : World} {c : Int} {rt : Bool} {vl : Int} {lb : List Nat} {vL vI vO : Value} {s : ES} {x : ByteArray} {vv : Value} {b : Nat} {n m : Nat} (h : RS C w c rt vl lb vL vI vO s) (hC : C.Ok) (hF : FindV C lb s x vv) (hk : x ∈ s.l.map Prod.fst ∨ (x ∉ s.l.map Prod.fst ∧ 0 ≤ globI C.t.globals x)) (hv : vv = .slice (some ⟨b, 0, none⟩) n m) {v : Int} (hi : inB v) : RS C (w.setCell ⟨b, 0, none⟩ (.int .i64 v)) c rt vl lb vL vI vO (s.wr C.t x v) := by
 rcases hk with hk | ⟨hk, hg⟩
 ·obtain ⟨j, hj, h1, h2⟩ := lix_mem.1 hk
  have hjb : j < lb.length := by rw [h.ll]; exact hj
  have e1 : lb.getD j 0 = lb[j] := by simp [List.getD, hjb]
  have := hF.1 j h1
  rw [hv, e1] at this
  simp only [Value.slice.injEq, Option.some.injEq, Addr.mk.injEq] at this
  obtain ⟨⟨rfl, -⟩, -⟩ := this
  have hs : s.wr C.t x v = { s with l := s.l.set j ((s.l[j]).1, v) } := by unfold ES.wr; rw [h1, h2]
  exact h.wl j hj hjb hs (wr_ok h.ok x hi)
 ·obtain ⟨k, hkl, h1, h2⟩ := gix_glob hg
  have hkb : k < C.gb.length := by rw [hC.gbl]; exact hkl
  have e1 : C.gb.getD k 0 = C.gb[k] := by simp [List.getD, hkb]
  have := hF.2 (lix_no hk) k h1
  rw [hv, e1] at this
  simp only [Value.slice.injEq, Option.some.injEq, Addr.mk.injEq] at this
  obtain ⟨⟨rfl, -⟩, -⟩ := this
  have hs : s.wr C.t x v = { s with g := s.g.set k ((s.g.getD k []).set 0 v) } := by unfold ES.wr; rw [lix_no hk, h1]
  exact h.wg k 0 hkb hs (wr_ok h.ok x hi)
theorem RS.retd {C : RC} {w : World} {vl : Int} {lb : List Nat} {vL vI vO : Value} {s : ES} (h : RS C w 0 false vl lb vL vI vO s) (v : Int) : RS C ((w.setCell ⟨C.P, 9, none⟩ (.bool true)).setCell ⟨C.P, 10, none⟩ (.int .i64 v)) 0 true v lb vL vI vO s :=
 (h.boxed 9 (.bool true) (rt' := true) rfl rfl rfl rfl h.inp h.ok h.uu h.nn).boxed 10 (.int .i64 v) rfl rfl rfl rfl h.inp h.ok h.uu h.nn
end
end Go.Proofs.YtolkpkklinoegaaDoor
