import Derived.Test.YtjhmgjimppflhaaGreatDoorY11
import Derived.Lib.QuietBelow
import Derived.BigQuiet
import Derived.Deep.RegionHeld
set_option linter.unusedSectionVars false
variable [Inhabited Go.Proofs.YtjhmgjimppflhaaGreatDoor.Pick]
namespace Go.Proofs.YtjhmgjimppflhaaGreatDoor
set_option linter.unusedVariables false
set_option linter.unusedSimpArgs false
set_option maxRecDepth 100000
set_option maxHeartbeats 16000000
section
open Go.RowKit Go.Sort
set_option maxHeartbeats 1000000 in
theorem most_any (a b : Int) (w : World) : Calls Tryz.prog 75 #[.int .i64 a, .int .i64 b] w fun e w' => e = .returned (.int .i64 (max a b)) ∧ Below w.heap.size w w' := by
 by_cases h : b < a
 ·have HM : Hid (max a b = a) := by show _ = _; omega
  go_enter Tryz.func75, Tryz.ntmps75
  go_wp2_with fail
  go_ret
  exact ⟨by rw [HM.out]; rfl, Below.refl _ _⟩
 ·have HM : Hid (max a b = b) := by show _ = _; omega
  go_enter Tryz.func75, Tryz.ntmps75
  go_wp2_with fail
  go_ret
  exact ⟨by rw [HM.out]; rfl, Below.refl _ _⟩
def NeedS (w0 : World) (e : List Nd) (g : Int → Int) : Prop := ∀ (v : Value) (w : World) (d : Int), Nodes w0 v e → Below w0.heap.size w0 w → 0 ≤ d → d + 7 * e.length ≤ 1000000000 → Calls Tryz.prog 104 #[v, .int .i64 d] w fun x w' => x = .returned (.int .i64 (g d)) ∧ Below w.heap.size w w'
set_option maxRecDepth 100000 in
set_option maxHeartbeats 4000000 in
theorem needS_step (w0 : World) (e : List Nd) (A : Nat) (b : Nat → Nat) (G : Nat → Int → Int) (hc0 : Cut e A b) (hl1 : e.length ≤ 1048576) (hbd : ∀ i, i < A → NFb (kid e b i).length (G i)) (hX : ∀ i, i < A → NeedS w0 (kid e b i) (G i)) :
  NeedS w0 e (need1 (rootN e) A G) := by
 intro v w d hN hB hd hdl
 have HX : Hid (∀ i, i < A → NeedS w0 (kid e b i) (G i)) := hX
 have he := hc0.len
 have HG : Hid (nodeB (rootN e) = true) := hc0.root_good
 have HA : Hid (arity (rootN e) = A) := hc0.ar
 have hA6 := hc0.arA
 have HKl : Hid (∀ i, i < A → (kid e b i).length < e.length) := fun i hi => hc0.kid_lt i hi
 have HBd : Hid (∀ i, i ≤ A → d ≤ callM G i d ∧ callM G i d ≤ d + 7 * (e.length + 1)) := fun i hi => callM_bd i d (by omega) (fun k hk => (hbd k (by omega)).mono (by have := hc0.kid_lt k (by omega); omega))
 have HB : Hid (Below w0.heap.size w0 w) := hB
 have HR : Hid (Calls Tryz.prog 110 #[v] w fun r w' => r = .returned (.agg #[.int .i64 (rootN e).kind, .int .i64 (rootN e).val, .string (rootN e).name]) ∧ Below w.heap.size w w') := by
  have := root_any _ e w he hl1 (hN.below hB)
  rw [← rootN_eq e he] at this
  exact this
 have HK : Hid (∀ W : World, Below w.heap.size w W → Calls Tryz.prog 123 #[v] W fun r w' => ∃ v', r = .returned v' ∧ Kids w0 w' W.heap.size v' e b A ∧ Below W.heap.size W w') := fun W hW => kids_any w0 v e A b W hl1 hN (hB.trans (hW.mono hB.size)) hc0
 clear hB hN hc0 hX hbd
 generalize hR : rootN e = R at HG HA HR ⊢
 clear hR
 obtain ⟨nk, nv, nm⟩ := R
 simp only at HR
 have hba : ∀ w1 : World, Below w.heap.size w w1 → ∀ o, Below w.heap.size w (w1.alloc o) := fun w1 h o => h.alloc h.size o
 go_enter Tryz.func104, Tryz.ntmps104
 go_wp2_with fail
 refine HR.out.mono ?_
 rintro x w1 ⟨rfl, hb1⟩
 go_wp2_with fail
 refine (HK.out _ (hba _ hb1 _)).mono ?_
 rintro x W ⟨vk, rfl, hKd, hb2⟩
 obtain ⟨g0, g1, g2⟩ : W.cell? ⟨w1.heap.size, 0, none⟩ = some (.int .i64 nk) ∧ W.cell? ⟨w1.heap.size, 1, none⟩ = some (.int .i64 nv) ∧ W.cell? ⟨w1.heap.size, 2, none⟩ = some (.string nm) := by
  refine ⟨?_, ?_, ?_⟩
  ·rw [hb2.cell (by simp)]; simp
  ·rw [hb2.cell (by simp)]; simp
  ·rw [hb2.cell (by simp)]; simp
 have HBW : Hid (Below w.heap.size w W) := (hba _ hb1 _).trans (hb2.mono (by have := hb1.size; simp; omega))
 have HB0 : Hid (Below w0.heap.size w0 W) := HB.out.trans (HBW.out.mono HB.out.size)
 have HKd : Hid (Kids w0 W (w1.alloc (.cells #[.int .i64 nk, .int .i64 nv, .string nm] 91)).heap.size vk e b A) := hKd
 clear hba hb1 hb2 HR HK
 generalize w1.heap.size = G' at g0 g1 g2 ⊢
 have hkk : 1 ≤ nk ∧ nk ≤ 9 := kind_good HG.out
 have hk : (nk = 3 ∨ nk = 6) ∨ nk = 7 ∨ (nk = 8 ∨ nk = 9) ∨ (nk = 1 ∨ nk = 2 ∨ nk = 4 ∨ nk = 5) := by omega
 rcases hk with hk | rfl | hk | hk
 ·have hA1 : A = 1 := by have := HA.out; rcases hk with rfl | rfl <;> (simp [arity] at this; omega)
  subst hA1
  obtain ⟨ua, uc, rfl, hu1, hu2, hu3⟩ := hKd
  obtain ⟨B, rfl, -, -, hBc⟩ := hu3 (by omega)
  obtain ⟨vi, hv1, hv2⟩ := hBc 0 (by omega)
  have HE : Hid (need1 ⟨nk, nv, nm⟩ 1 G d = G 0 d) := by show _ = _; simp [need1, hk]
  have HC : Hid (Calls Tryz.prog 104 #[vi, .int .i64 d] W fun x w' => x = .returned (.int .i64 (G 0 d)) ∧ Below W.heap.size W w') := HX.out 0 (by omega) vi W d hv2 HB0.out hd (by have := HKl.out 0 (by omega); omega)
  clear hu3 hBc hv2 HKd
  generalize G 0 d = q at HC HE
  rcases hk with rfl | rfl
  ·go_wp2_with fail
   refine HC.out.mono ?_
   rintro x w2 ⟨rfl, hb2⟩
   go_wp2_with fail
   go_ret
   exact ⟨by rw [HE.out]; rfl, HBW.out.trans (hb2.mono HBW.out.size)⟩
  ·go_wp2_with fail
   refine HC.out.mono ?_
   rintro x w2 ⟨rfl, hb2⟩
   go_wp2_with fail
   go_ret
   exact ⟨by rw [HE.out]; rfl, HBW.out.trans (hb2.mono HBW.out.size)⟩
 ·have hA2 : A = 2 := by have := HA.out; simp [arity] at this; omega
  subst hA2
  obtain ⟨ua, uc, rfl, hu1, hu2, hu3⟩ := hKd
  obtain ⟨B, rfl, -, -, hBc⟩ := hu3 (by omega)
  obtain ⟨v0, hv0, hn0⟩ := hBc 0 (by omega)
  obtain ⟨v1, hv1, hn1⟩ := hBc 1 (by omega)
  have HE : Hid (need1 ⟨7, nv, nm⟩ 2 G d = max (G 0 d) (G 1 (d + 1))) := by show _ = _; simp [need1]
  have c0 : ∀ dd os, Calls Tryz.prog 104 #[v0, .int .i64 d] (grow (redrawn W dd) os) fun e w'' => e = .returned (.int .i64 (G 0 d)) ∧ ∃ p : Regrown, w'' = grow (redrawn W p.d) p.os := fun dd os => Calls.regrown_of (HX.out 0 (by omega) v0 _ d hn0 (HB0.out.trans ((below_regrown W dd os).mono HB0.out.size)) hd (by have := HKl.out 0 (by omega); omega))
  obtain ⟨d1, hd1⟩ : ∃ d1, d1 = d + 1 := ⟨_, rfl⟩
  rw [← hd1] at HE
  have c1 : ∀ dd os, Calls Tryz.prog 104 #[v1, .int .i64 d1] (grow (redrawn W dd) os) fun e w'' => e = .returned (.int .i64 (G 1 d1)) ∧ ∃ p : Regrown, w'' = grow (redrawn W p.d) p.os := fun dd os => Calls.regrown_of (HX.out 1 (by omega) v1 _ d1 hn1 (HB0.out.trans ((below_regrown W dd os).mono HB0.out.size)) (by omega) (by have := HKl.out 1 (by omega); omega))
  generalize G 0 d = p0 at c0 HE
  generalize G 1 d1 = p1 at c1 HE
  have c2 : ∀ dd os, Calls Tryz.prog 75 #[.int .i64 p0, .int .i64 p1] (grow (redrawn W dd) os) fun e w'' => e = .returned (.int .i64 (max p0 p1)) ∧ ∃ p : Regrown, w'' = grow (redrawn W p.d) p.os := fun dd os => Calls.regrown_of (most_any p0 p1 _)
  have k0 := cell_regrown hv0
  have k1 := cell_regrown hv1
  have hwd : IntKind.i64.wrap (d + 1) = d1 := by rw [hd1]; simp [IntKind.wrap, IntKind.bits, IntKind.signed]; omega
  clear hd1
  clear hu3 hBc hn0 hn1 HKd
  go_wp2_with fail
  refine wp_region_quiet_below (by kernel_rfl) (by kernel_rfl) ?_
  repeat (quiet_step (first | with_reducible exact c0 _ _ | with_reducible exact c1 _ _ | with_reducible exact c2 _ _))
  refine wpQuiet_nil ?_
  intro _ hw'
  obtain ⟨⟨dq, osq⟩, hw''⟩ := hw'
  subst hw''
  go_wp2_with fail
  go_ret
  exact ⟨by rw [HE.out]; rfl, HBW.out.trans ((below_regrown W dq osq).mono HBW.out.size)⟩
 ·have hA2 : A = 2 := by have := HA.out; rcases hk with rfl | rfl <;> (simp [arity] at this; omega)
  subst hA2
  obtain ⟨ua, uc, rfl, hu1, hu2, hu3⟩ := hKd
  obtain ⟨B, rfl, -, -, hBc⟩ := hu3 (by omega)
  obtain ⟨v0, hv0, hn0⟩ := hBc 0 (by omega)
  obtain ⟨v1, hv1, hn1⟩ := hBc 1 (by omega)
  have HE : Hid (need1 ⟨nk, nv, nm⟩ 2 G d = max (G 0 d) (G 1 d)) := by show _ = _; rcases hk with rfl | rfl <;> simp [need1]
  have c0 : ∀ dd os, Calls Tryz.prog 104 #[v0, .int .i64 d] (grow (redrawn W dd) os) fun e w'' => e = .returned (.int .i64 (G 0 d)) ∧ ∃ p : Regrown, w'' = grow (redrawn W p.d) p.os := fun dd os => Calls.regrown_of (HX.out 0 (by omega) v0 _ d hn0 (HB0.out.trans ((below_regrown W dd os).mono HB0.out.size)) hd (by have := HKl.out 0 (by omega); omega))
  have c1 : ∀ dd os, Calls Tryz.prog 104 #[v1, .int .i64 d] (grow (redrawn W dd) os) fun e w'' => e = .returned (.int .i64 (G 1 d)) ∧ ∃ p : Regrown, w'' = grow (redrawn W p.d) p.os := fun dd os => Calls.regrown_of (HX.out 1 (by omega) v1 _ d hn1 (HB0.out.trans ((below_regrown W dd os).mono HB0.out.size)) hd (by have := HKl.out 1 (by omega); omega))
  generalize G 0 d = p0 at c0 HE
  generalize G 1 d = p1 at c1 HE
  have c2 : ∀ dd os, Calls Tryz.prog 75 #[.int .i64 p0, .int .i64 p1] (grow (redrawn W dd) os) fun e w'' => e = .returned (.int .i64 (max p0 p1)) ∧ ∃ p : Regrown, w'' = grow (redrawn W p.d) p.os := fun dd os => Calls.regrown_of (most_any p0 p1 _)
  have k0 := cell_regrown hv0
  have k1 := cell_regrown hv1
  clear hu3 hBc hn0 hn1 HKd
  rcases hk with rfl | rfl
  ·go_wp2_with fail
   refine wp_region_quiet_below (by kernel_rfl) (by kernel_rfl) ?_
   repeat (quiet_step (first | with_reducible exact c0 _ _ | with_reducible exact c1 _ _ | with_reducible exact c2 _ _))
   refine wpQuiet_nil ?_
   intro _ hw'
   obtain ⟨⟨dq, osq⟩, hw''⟩ := hw'
   subst hw''
   go_wp2_with fail
   go_ret
   exact ⟨by rw [HE.out]; rfl, HBW.out.trans ((below_regrown W dq osq).mono HBW.out.size)⟩
  ·go_wp2_with fail
   refine wp_region_quiet_below (by kernel_rfl) (by kernel_rfl) ?_
   repeat (quiet_step (first | with_reducible exact c0 _ _ | with_reducible exact c1 _ _ | with_reducible exact c2 _ _))
   refine wpQuiet_nil ?_
   intro _ hw'
   obtain ⟨⟨dq, osq⟩, hw''⟩ := hw'
   subst hw''
   go_wp2_with fail
   go_ret
   exact ⟨by rw [HE.out]; rfl, HBW.out.trans ((below_regrown W dq osq).mono HBW.out.size)⟩
 ·have HE : Hid (need1 ⟨nk, nv, nm⟩ A G d = callM G A d) := by show _ = _; rcases hk with rfl | rfl | rfl | rfl <;> simp [need1]
  obtain ⟨ua, uc, rfl, hu1, hu2, -⟩ := hKd
  have h3 : (nk == 3) = false := by simp; omega
  have h6 : (nk == 6) = false := by simp; omega
  have h7 : (nk == 7) = false := by simp; omega
  have h8 : (nk == 8) = false := by simp; omega
  have h9 : (nk == 9) = false := by simp; omega
  clear hk hkk
  go_wp2_with fail
  go_loopw [7, 8] (fun m i wr => ∃ (k : Nat), k ≤ A ∧ i = .int .i64 k ∧ m = .int .i64 (callM G k d) ∧ Below W.heap.size W wr) (fun _ i _ => A - (RowKit.intOf i).toNat)
  case atStart => exact ⟨0, Nat.zero_le _, rfl, rfl, Below.refl _ _⟩
  case round =>
   obtain ⟨k, hk, rfl, rfl, hBk⟩ := hrel
   obtain ⟨hb1, hb2⟩ := HBd.out k hk
   by_cases hlt : k < A
   ·obtain ⟨ua', uc', heq, -, -, hu3⟩ := HKd.out
    simp only [Value.slice.injEq, true_and] at heq
    obtain ⟨rfl, rfl⟩ := heq
    obtain ⟨B, rfl, -, hBl, hBc⟩ := hu3 (by omega)
    obtain ⟨vi, hv1, hv2⟩ := hBc k hlt
    have hv := (hBk.cell (p := ⟨B, k, none⟩) hBl).trans hv1
    have HC : Hid (Calls Tryz.prog 104 #[vi, .int .i64 (d + k)] wr fun x w' => x = .returned (.int .i64 (G k (d + k))) ∧ Below wr.heap.size wr w') := HX.out k hlt vi wr (d + k) hv2 (HB0.out.trans (hBk.mono HB0.out.size)) (by omega) (by have := HKl.out k hlt; omega)
    have HN : Hid (callM G (k + 1) d = max (callM G k d) (G k (d + k))) := rfl
    have hwk : IntKind.i64.wrap (d + (k : Int)) = d + (k : Int) := by simp [IntKind.wrap, IntKind.bits, IntKind.signed]; omega
    clear hu3 hBc hv2 hv1 g0 g1 g2
    generalize callM G k d = p at hb1 hb2 HN
    generalize G k (d + k) = q at HC HN
    go_wp2_with fail
    refine HC.out.mono ?_
    rintro x w2 ⟨rfl, hb3⟩
    have hB2 := hBk.trans (hb3.mono hBk.size)
    clear hb3 hv HC
    go_wp2_with fail
    refine (most_any p q w2).mono ?_
    rintro x w3 ⟨rfl, hb4⟩
    have hB3 := hB2.trans (hb4.mono hB2.size)
    go_wp2_with fail
    go_roundw
    case rel => exact ⟨k + 1, by omega, by go_num, by rw [HN.out], hB3⟩
    case measure => simp [RowKit.intOf]; omega
   ·obtain rfl : k = A := by omega
    clear g0 g1 g2
    generalize callM G k d = p at hb1 hb2 HE
    go_wp2_with fail
    go_ret
    exact ⟨by rw [HE.out]; rfl, HBW.out.trans (hBk.mono HBW.out.size)⟩
theorem needS_any (w0 : World) (N : Nat) : ∀ e : List Nd, e.length ≤ N → N ≤ 1048576 → oneB e = true → ∃ g, NF e g ∧ NFb e.length g ∧ NeedS w0 e g := by
 induction N with
 | zero => intro e hl _ h; have := one_pos h; omega
 | succ N ih =>
  intro e hl hN h
  obtain ⟨A, b, hc, hk⟩ := one_cuts h
  have h0 : ∀ i, ∃ g, i < A → NF (kid e b i) g ∧ NFb (kid e b i).length g ∧ NeedS w0 (kid e b i) g := by
   intro i
   by_cases hi : i < A
   ·obtain ⟨g, hg⟩ := ih (kid e b i) (by have := hc.kid_lt i hi; omega) (by omega) (hk i hi)
    exact ⟨g, fun _ => hg⟩
   ·exact ⟨fun d => d, fun h => absurd h hi⟩
  refine ⟨_, NF.cut hc (G := fun i => (h0 i).choose) (fun i hi => ((h0 i).choose_spec hi).1), ?_, needS_step w0 e A b _ hc (by omega) (fun i hi => ((h0 i).choose_spec hi).2.1) (fun i hi => ((h0 i).choose_spec hi).2.2)⟩
  have := need1_bd (L := e.length - 1) hc.root_good hc.ar (fun i hi => (((h0 i).choose_spec hi).2.1).mono (by have := hc.kid_lt i hi; omega))
  rw [show e.length - 1 + 1 = e.length by have := hc.len; omega] at this
  exact this
end
end Go.Proofs.YtjhmgjimppflhaaGreatDoor
