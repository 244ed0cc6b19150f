import Derived.Test.YtjhmgjimppflhaaGreatDoorY50
import Derived.Deep.RegionLaw
import Derived.Deep.CutRange
import Derived.Deep.RegionHeldLaw
set_option linter.unusedSectionVars false
variable [Inhabited Go.Proofs.YtjhmgjimppflhaaGreatDoor.Pick]
namespace Go.Proofs.YtjhmgjimppflhaaGreatDoor
set_option linter.unusedVariables false
set_option linter.unusedSimpArgs false
set_option maxRecDepth 100000
set_option maxHeartbeats 16000000
section
open Go.RowKit
theorem own_keepX {w w' : World} {B size n : Nat} {e : TypeId} {v : Value} {xs : List Value} (h : w.ownsRow B e size v n xs) (hk : ∀ g, v.ownBlock = some g → w'.heap[g]? = w.heap[g]?) : w'.ownsRow B e size v n xs := by
 obtain ⟨hx, h | ⟨g, cap, cur, rfl, h1, h2, h3⟩⟩ := h
 ·exact ⟨hx, .inl h⟩
 ·exact ⟨hx, .inr ⟨g, cap, cur, rfl, h1, (hk g rfl).trans h2, h3⟩⟩
set_option maxRecDepth 100000 in
set_option maxHeartbeats 16000000 in
theorem tree_any (g : Nat) (a : Option Addr) (len cap : Nat) (w : World) (hl : len ≤ 1048576) (hL : Lo g a len (S0 g) w.heap.size) (hc : Cur g a len cap w) :
  Calls Tryz.prog 19 #[.pointer (some ⟨g, 0, none⟩)] w fun e w' => ∃ vg vf, e = .returned (.agg #[vg, vf]) ∧ (∃ t, TD (fun k => k < w.heap.size) w' vg vf t) ∧ Dr g a len cap (S0 g) w w' := by
 have hS0 : S0 g g := rfl
 have HLo : Hid (Lo g a len (S0 g) w.heap.size) := hL
 obtain ⟨W1, hW1, b0, b1, b2, b3, hb, hs⟩ := tree_boxes w
 have HW1 : Hid (W1 = _) := hW1
 obtain ⟨R0, hR0⟩ : ∃ R0, R0 = w.heap.size := ⟨_, rfl⟩
 obtain ⟨GL, hGL⟩ : ∃ GL, GL = w.heap.size + 1 := ⟨_, rfl⟩
 obtain ⟨T, hT⟩ : ∃ T, T = w.heap.size + 2 := ⟨_, rfl⟩
 obtain ⟨NB, hNB⟩ : ∃ NB, NB = w.heap.size + 3 := ⟨_, rfl⟩
 have HR0 : Hid (R0 = w.heap.size) := hR0
 have HGL : Hid (GL = w.heap.size + 1) := hGL
 have HT : Hid (T = w.heap.size + 2) := hT
 have HNB : Hid (NB = w.heap.size + 3) := hNB
 rw [← hR0] at b0
 rw [← hGL] at b1
 rw [← hT, ← hGL] at b2
 rw [← hNB] at b3
 have HB0 : Hid (FrC W1 R0 [.slice none 0 0, .slice none 0 0]) := b0
 have HB1 : Hid (FrC W1 GL gcells) := b1
 have HB2 : Hid (FrC W1 T [.slice (some ⟨GL, 0, none⟩) 4 4, .slice none 0 0]) := b2
 have HB3 : Hid (FrC W1 NB ncells) := b3
 have HBl : Hid (Below w.heap.size w W1) := hb
 have HSz : Hid (W1.heap.size = w.heap.size + 4) := hs
 have HC1 : Hid (Cur g a len cap W1) := hc.below hb
 clear hW1 b0 b1 b2 b3 hb hs hR0 hGL hT hNB hc hL
 go_enter Tryz.func19, Tryz.ntmps19
 go_upto_region 3 with fail
 rw [← HW1.out, ← HNB.out, ← HT.out, ← HGL.out, ← HR0.out]
 clear HW1
 go_wp2_with fail
 refine (below_any g a len cap (S0 g) _ _ hl hS0 HC1.out (by omega)).mono ?_
 rintro e w1 ⟨n, rfl, hn, hd1⟩
 obtain ⟨q, hq⟩ : ∃ q, q = w1.heap.size := ⟨_, rfl⟩
 obtain ⟨W2, hW2⟩ : ∃ W2, W2 = w1.alloc (.cells #[.slice none 0 0, .slice none 0 0, .slice none 0 0, .slice none 0 0, .int .i64 0] 80) := ⟨_, rfl⟩
 have HW2 : Hid (W2 = w1.alloc (.cells #[.slice none 0 0, .slice none 0 0, .slice none 0 0, .slice none 0 0, .int .i64 0] 80)) := hW2
 have Hq : Hid (q = w1.heap.size) := hq
 have h12 : Tcs (S0 g) W1 W2 := by rw [hW2]; exact hd1.tcs.alloc _
 have hgw : g < w.heap.size := HLo.out.gl
 have HNe : Hid (T = w.heap.size + 2 ∧ GL = w.heap.size + 1 ∧ NB = w.heap.size + 3 ∧ R0 = w.heap.size ∧ w.heap.size + 4 ≤ q ∧ q < W2.heap.size ∧ g < w.heap.size) := ⟨HT.out, HGL.out, HNB.out, HR0.out, by rw [hq, ← HSz.out]; exact hd1.tcs.size, by rw [hq, hW2]; simp, hgw⟩
 have hsz := HSz.out
 have nT : ¬ S0 g T := fun e => by have : T = g := e; have := HT.out; omega
 have nG : ¬ S0 g GL := fun e => by have : GL = g := e; have := HGL.out; omega
 have nN : ¬ S0 g NB := fun e => by have : NB = g := e; have := HNB.out; omega
 have nR : ¬ S0 g R0 := fun e => by have : R0 = g := e; have := HR0.out; omega
 have HC0 : Hid (FrC W2 R0 [.slice none 0 0, .slice none 0 0]) := HB0.out.tcs (by have := HR0.out; omega) h12 nR
 have HCg : Hid (FrC W2 GL gcells) := HB1.out.tcs (by have := HGL.out; omega) h12 nG
 have HCT : Hid (FrC W2 T [.slice (some ⟨GL, 0, none⟩) 4 4, .slice none 0 0]) := HB2.out.tcs (by have := HT.out; omega) h12 nT
 have HCN : Hid (FrC W2 NB ncells) := HB3.out.tcs (by have := HNB.out; omega) h12 nN
 have HCq : Hid (FrC W2 q [.slice none 0 0, .slice none 0 0, .slice none 0 0, .slice none 0 0, .int .i64 0]) := by rw [hW2, hq]; exact box_fr w1 _ _ (by decide)
 have HCu : Hid (Cur g a len cap W2) := by rw [hW2]; exact hd1.cur.alloc _
 have HD2 : Hid (Dr g a len cap (S0 g) w W2) := ⟨HCu.out, (HBl.out.tcs (S := S0 g)).trans h12⟩
 clear hd1 hq hW2 h12 hsz nT nG nN nR HB0 HB1 HB2 HB3 HC1 HBl HSz hgw
 go_upto_region 5 with fail
 rw [← HW2.out, ← Hq.out]
 clear HW2 Hq HR0 HGL HT HNB
 go_wp2_with fail
 go_loopw [7, 8, 9, 10, 11] (fun i fp ip np kk wr => ∃ j : Nat, (j : Int) ≤ n ∧ i = .int .i64 j ∧ LI g a len cap T q GL W2.heap.size W2 wr j) (fun i _ _ _ _ _ => n.toNat - (RowKit.intOf i).toNat)
 case atStart =>
  refine ⟨0, by omega, rfl, HCu.out, Tcs.refl _ _, none, 0, 0, [], HCT.out, fr_none, rfl, none, 0, 0, none, 0, 0, [], [], HCq.out, fun W hW => ⟨⟨none, 0, rfl, Nat.le_refl _, by omega, fun h => absurd h (Nat.lt_irrefl _)⟩, ⟨none, 0, rfl, fun h => absurd h (Nat.lt_irrefl _)⟩⟩, rfl, rfl, (fun x hx => by cases hx), fun x hx => by cases hx⟩
 case round =>
  obtain ⟨j, hj, rfl, hLI⟩ := hrel
  rename World => Wr
  have HLI : Hid (LI g a len cap T q GL W2.heap.size W2 Wr j) := hLI
  obtain ⟨-, htr, fa, fn, fc, Q, hfT, hfr, hQj, ca, cn, cc, pa, pn, pc, cs, ps, hfq, hst, hcj, hpj, hpb, hcb⟩ := hLI
  by_cases hlt : (j : Int) < n
  ·obtain ⟨eT, eG, eN, eR, eq1, eq2, eg⟩ := HNe.out
   have nSx : ∀ k, k = GL ∨ k = NB ∨ k = R0 → ¬ Sx g T q k := fun k hk e => by rcases e with e | e | e <;> omega
   have hfN : FrC Wr NB ncells := HCN.out.tcs (by omega) htr (nSx _ (.inr (.inl rfl)))
   obtain ⟨nm, hnm, hnms⟩ := names_fr hfN (j := j) (by omega)
   have hj4 : (j : Int) < 4 := by omega
   have HNms : Hid (nm.size ≤ 100000) := hnms
   have hsr : W2.heap.size ≤ Wr.heap.size := htr.size
   obtain ⟨F, hF⟩ : ∃ F, F = Wr.heap.size := ⟨_, rfl⟩
   obtain ⟨I, hI⟩ : ∃ I, I = Wr.heap.size + 1 := ⟨_, rfl⟩
   obtain ⟨W3, hW3⟩ : ∃ W3, W3 = (Wr.alloc (.cells #[.string nm, .slice none 0 0, .slice none 0 0] 61)).alloc (.cells #[.slice ca cn cc, .slice pa pn pc, .slice none 0 0, .slice none 0 0, .int .i64 0] 80) := ⟨_, rfl⟩
   have HW3 : Hid (W3 = (Wr.alloc (.cells #[.string nm, .slice none 0 0, .slice none 0 0] 61)).alloc (.cells #[.slice ca cn cc, .slice pa pn pc, .slice none 0 0, .slice none 0 0, .int .i64 0] 80)) := hW3
   have HF : Hid (F = Wr.heap.size) := hF
   have HI : Hid (I = Wr.heap.size + 1) := hI
   have q0 := (hfq 0 _ rfl).1
   have q1 := (hfq 1 _ rfl).1
   have hfqa := hfq.below ((Below.refl Wr.heap.size Wr).alloc (Nat.le_refl _) (.cells #[.string nm, .slice none 0 0, .slice none 0 0] 61))
   have q0a := (hfqa 0 _ rfl).1
   have q1a := (hfqa 1 _ rfl).1
   have hb3 : Below Wr.heap.size Wr W3 := by rw [hW3]; exact ((Below.refl _ _).alloc (Nat.le_refl _) _).alloc (by simp) _
   have hs3 : W3.heap.size = Wr.heap.size + 2 := by rw [hW3]; simp
   have HB3 : Hid (Below Wr.heap.size Wr W3 ∧ W3.heap.size = Wr.heap.size + 2) := ⟨hb3, hs3⟩
   have HF3 : Hid (FrC W3 F [.string nm, .slice none 0 0, .slice none 0 0]) := by
    rw [hW3, hF]
    exact (box_fr Wr _ _ (by simp)).below ((Below.refl _ _).alloc (Nat.le_refl _) _)
   have HI3 : Hid (FrC W3 I [.slice ca cn cc, .slice pa pn pc, .slice none 0 0, .slice none 0 0, .int .i64 0]) := by
    rw [hW3, hI]
    have := box_fr (Wr.alloc (.cells #[.string nm, .slice none 0 0, .slice none 0 0] 61)) #[.slice ca cn cc, .slice pa pn pc, .slice none 0 0, .slice none 0 0, .int .i64 0] 80 (by simp)
    simp only [World.size_alloc] at this
    exact this
   have HIz : Hid (∀ j, W3.frozen? ⟨I, j, none⟩ = false) := fun j => by
    rw [hW3, hI]
    have e : Wr.heap.size + 1 = (Wr.alloc (.cells #[.string nm, .slice none 0 0, .slice none 0 0] 61)).heap.size := by simp
    rw [e]
    simp
   have HCu3 : Hid (Cur g a len cap W3) := HLI.out.cur.below hb3
   have HfT : Hid (FrC Wr T [.slice (some ⟨GL, 0, none⟩) 4 4, .slice fa fn fc]) := hfT
   have Hfr : Hid (FR (fun k => k < W2.heap.size) W2.heap.size Wr (.slice fa fn fc) Q) := hfr
   have HQj : Hid (Q.length = j ∧ cs.length = j ∧ ps.length = j) := ⟨hQj, hcj, hpj⟩
   have Hfq : Hid (FrC Wr q [.slice ca cn cc, .slice pa pn pc, .slice none 0 0, .slice none 0 0, .int .i64 0]) := hfq
   have Hst : Hid (∀ W, Tcs (Sv (Sx g T q) (.slice fa fn fc)) Wr W → Strs W (.slice ca cn cc) cs ∧ Ints W (.slice pa pn pc) ps) := hst
   have Hpb : Hid ((∀ x ∈ ps, 0 ≤ x ∧ x ≤ 6) ∧ ∀ x ∈ cs, x.size ≤ 100000) := ⟨hpb, hcb⟩
   have HTr : Hid (Tcs (Sx g T q) W2 Wr) := htr
   have HnSx : Hid (∀ k, k = GL ∨ k = NB ∨ k = R0 → ¬ Sx g T q k) := nSx
   clear htr hfT hfr hQj hfq hst hcj hpj hpb hcb nSx hfN hnms hF hI hW3 hfqa hb3 hs3 eT eG eN eR eq1 eq2 eg
   go_upto_region 10 with fail
   rw [← HW3.out, ← HI.out, ← HF.out]
   clear q0 q1 q0a q1a HW3 hnm
   go_wp2_with fail
   refine (below_any g a len cap (S0 g) _ _ hl hS0 HCu3.out (by omega)).mono ?_
   rintro e w4 ⟨x4, rfl, hx4, hd4⟩
   have HD4 : Hid (Dr g a len cap (S0 g) W3 w4) := hd4
   clear hd4
   go_wp2_with fail
   refine (once_any g a len cap (S0 g) _ _ hl hS0 HD4.out.cur (by omega)).mono ?_
   rintro e w5 ⟨b5, rfl, hd5⟩
   have HD5 : Hid (Dr g a len cap (S0 g) W3 w5) := HD4.out.trans hd5
   clear hd5 HD4
   go_upto_if 42 with fail
   go_cut [10] from 24 to 99 (fun npv W => ∃ np : Nat, npv = .int .i64 np ∧ np ≤ 6 ∧ W = w5)
   case first =>
    cases b5
    ·go_wp2_with fail
     go_meet
     case rel => exact ⟨x4.toNat, by rw [show ((x4.toNat : Nat) : Int) = x4 by omega], by omega, rfl⟩
    ·go_wp2_with fail
     go_meet
     case rel => exact ⟨6, rfl, by omega, rfl⟩
   case rest =>
    obtain ⟨np, rfl, hnp, hwc⟩ := hcut
    rw [hwc]
    clear hwc
    have hF3 : F < W3.heap.size ∧ g < F ∧ W3.heap.size = F + 2 := by have := HB3.out.2; have := HF.out; have h7 := HNe.out; omega
    have nF : ¬ S0 g F := fun e => by have : F = g := e; omega
    have HLo3 : Hid (Lo g a len (S0 g) W3.heap.size) := HLo.out.mono (by have := HB3.out.2; have := HD2.out.tcs.size; have := HTr.out.size; omega)
    have HP0 : Hid (PI g a len cap F nm W3 w5 0) := ⟨HD5.out.cur, HD5.out.tcs.mono (fun k hk => .inl hk), none, 0, 0, [], HF3.out.tcs hF3.1 HD5.out.tcs nF, World.ownsRow_nil _ _ _ _, rfl, fun x hx => by cases hx⟩
    clear nF
    go_wp2_with fail
    go_loopw [11] (fun kv wx => ∃ k : Nat, k ≤ np ∧ kv = .int .i64 k ∧ PI g a len cap F nm W3 wx k) (fun kv _ => np - (RowKit.intOf kv).toNat)
    case atStart => exact ⟨0, Nat.zero_le _, rfl, HP0.out⟩
    case round =>
     obtain ⟨k, hk, rfl, hPI⟩ := hrel
     have HPI : Hid (PI g a len cap F nm W3 wr k) := hPI
     by_cases hkn : k < np
     ·obtain ⟨px, pm, py, hy1⟩ : ∃ px pm py, wr.cell? ⟨F, 1, none⟩ = some (.slice px pm py) := by obtain ⟨-, -, x, y, z, qs, hf, -⟩ := hPI; exact ⟨x, y, z, (hf 1 _ rfl).1⟩
      have hkI : (k : Int) < (np : Int) := by omega
      have hlw : F < wr.heap.size := Nat.lt_of_lt_of_le hF3.1 hPI.tcs.size
      have hyA : (wr.alloc (.cells #[.string ⟨#[112]⟩, .string ⟨#[113]⟩] 9)).cell? ⟨F, 1, none⟩ = some (.slice px pm py) := (World.cell?_alloc_past _ F 1 hlw).trans hy1
      have hsz : (tx (Lib.decDigits k)).size ≤ 50 := by
       rw [tx_size]
       have := dec_len k k (Nat.le_refl _)
       omega
      have HDg : Hid (∀ W : World, Calls Tryz.prog 44 #[.int .i64 k] W fun e w' => e = .returned (.string (tx (Lib.decDigits k))) ∧ Below W.heap.size W w') := fun W => digN_any k k (Nat.le_refl _) (by omega) W
      generalize tx (Lib.decDigits k) = A at hsz HDg
      have hszI : ((A.size : Nat) : Int) ≤ 50 := by omega
      have HPS := param_step hPI ⟨hF3.2.1, hF3.1⟩ (HLo.out.mono (by have := HNe.out; have := HF.out; omega)) (by omega) A (by omega) px pm py hy1 (.cells #[.string ⟨#[112]⟩, .string ⟨#[113]⟩] 9)
      have HPS' := hide HPS
      have HPk : Hid (Calls Tryz.prog 43 #[.pointer (some ⟨g, 0, none⟩), .slice (some ⟨wr.heap.size, 0, none⟩) 2 2] ((wr.alloc (.cells #[.string ⟨#[112]⟩, .string ⟨#[113]⟩] 9)).drew) fun e w' => ∃ s, s ∈ [⟨#[112]⟩, ⟨#[113]⟩] ∧ e = .returned (.string s) ∧ Dr g a len cap (S0 g) ((wr.alloc (.cells #[.string ⟨#[112]⟩, .string ⟨#[113]⟩] 9)).drew) w') := pick_any g a len cap (S0 g) [⟨#[112]⟩, ⟨#[113]⟩] _ (wr.drew.alloc (.cells #[.string ⟨#[112]⟩, .string ⟨#[113]⟩] 9)) hl hS0 (hPI.cur.below (((Below.refl _ _).drew).alloc (Nat.le_refl _) _)) (lit_fz (w := wr.drew) _ _ 2 rfl rfl (by decide) (fun b hb => by have e : b = g := hb; have : wr.drew.heap.size = wr.heap.size := rfl; omega)) (by decide)
      clear HPS hsz hPI HP0
      go_upto_region 16 with fail
      go_region_law
       (first
       | (go_simp; (with_reducible refine Calls.mono HPk.out ?_); intro x w6 hx; obtain ⟨s, hsm, hxe, hd6⟩ := hx; subst hxe; have hss : s.size ≤ 1 := (by simp at hsm; rcases hsm with rfl | rfl <;> decide); have hssI : ((s.size : Nat) : Int) ≤ 1 := (by omega); have z6 := (HPS'.out w6 s w6 hss hd6 (Below.refl _ _)); obtain ⟨-, -, -, -, -, ⟨z6, -, -⟩, -⟩ := z6; clear hsm)
       | (go_simp; (with_reducible refine Calls.mono (HDg.out _) ?_); intro x w7 hx; obtain ⟨hxe, hb7⟩ := hx; subst hxe; have hsA : ¬ 9223372036854775807 < s.size + A.size := (by omega); obtain ⟨va, vn, vc, w8, r8, ⟨-, z7, z7a⟩, y8, f8, hp8⟩ := HPS'.out w6 s w7 hss hd6 hb7; clear hb7)
       | (refine step_appR rfl _ _ _ rfl _ _ _ _ rfl rfl r8 ?_))
      all_goals (
       have HRel : Hid (PI g a len cap F nm W3 (w8.setCell ⟨F, 1, none⟩ (.slice va vn vc)) (k + 1)) := hp8
       clear hp8 r8 y8 f8 z7 z7a z6 HPS' HPk HDg HPI
       go_wp2_with fail
       go_roundw
       case rel => exact ⟨k + 1, by omega, by go_num, HRel.out⟩
       case measure => simp [RowKit.intOf]; omega)
     ·obtain rfl : k = np := by omega
      obtain ⟨hcx, htx, px, pm, py, qs, hfx, hox, hqk, hqs⟩ := hPI
      have hQ := HQj.out
      have hne := HNe.out
      have hF' := HF.out
      have hI' := HI.out
      have hjn : j ≤ 3 := by omega
      have hvF : ∀ b, (Value.slice fa fn fc).ownBlock = some b → q < b ∧ b < Wr.heap.size := fun b hb => ⟨by have := (Hfr.out.rng b hb).1; omega, (Hfr.out.rng b hb).2⟩
      obtain ⟨hgs, hfI⟩ := gs_make (T := T) (q := q) Hst.out ⟨by omega, by omega⟩ Hpb.out HB3.out.1 hF' hI' HB3.out.2 HI3.out HIz.out hcx htx hox (by omega) hqs ⟨by omega, by omega, by omega, by omega⟩ (HLo.out.mono (by omega)) (by omega) hvF
      have y1 := (hfx 1 _ rfl).1
      have i2 := (hfI 2 _ rfl).1
      have i2z := (hfI 2 _ rfl).2
      obtain ⟨W10, hW10⟩ : ∃ W10, W10 = wr.setCell ⟨I, 2, none⟩ (.slice px pm py) := ⟨_, rfl⟩
      have HW10 : Hid (W10 = wr.setCell ⟨I, 2, none⟩ (.slice px pm py)) := hW10
      rw [← hW10] at hgs
      have hlF : F < wr.heap.size := Nat.lt_of_lt_of_le hF3.1 htx.size
      have htI : Tcs (fun b => b = I) wr W10 := by rw [hW10]; exact (Tcs.refl (fun b => b = I) wr).setCell (p := ⟨I, 2, none⟩) rfl _
      have HG10 : Hid (GS g a len cap I (S5 g T q F I (.slice fa fn fc)) W10 ⟨.slice ca cn cc, .slice pa pn pc, .slice px pm py, .slice none 0 0, 0, cs, ps, qs, []⟩ 10) := hgs
      have HF10 : Hid (FrC W10 F [.string nm, .slice px pm py, .slice none 0 0]) := hfx.tcs hlF htI (by omega)
      have HT10 : Hid (Tcs (fun b => b = g ∨ b = F ∨ b = I) W3 W10) := (htx.mono fun b hb => hb.imp id .inl).trans (htI.mono fun b hb => .inr (.inr hb))
      have HOx : Hid (wr.ownsRow W3.heap.size 9 1 (.slice px pm py) qs.length (qs.map Value.string)) := hox
      have HOs : Hid (∀ (S : Nat → Prop) W, Tcs S W10 W → (∀ b, S b → b < W3.heap.size ∨ W10.heap.size ≤ b) → Strs W (.slice px pm py) qs) := fun S W hW hS => own_strs (own_keepX hox (fun b hb => by
       obtain ⟨h1, h2⟩ := World.ownsRow.lt hox b hb
       have h10 := htI.size
       rw [hW.block b (by omega) (fun s => by have := hS b s; have h10' : W10.heap.size = wr.heap.size := (by rw [hW10]; simp); omega), htI.block b h2 (by omega)]))
      have HQs : Hid (qs.length ≤ 6 ∧ ∀ x ∈ qs, x.size ≤ 100000) := ⟨by omega, hqs⟩
      clear hW10 hgs hcx htx hfx hox hqk hqs htI hlF hfI hF' hI' hvF hQ hne
      go_upto_region 18 with fail
      rw [← HW10.out]
      clear y1 i2 i2z HW10
      go_wp2_with fail
      refine (below_any g a len cap (S0 g) _ _ hl hS0 HG10.out.cur (by omega)).mono ?_
      rintro e w11 ⟨x11, rfl, hx11, hd11⟩
      have HG11 := hide (HG10.out.dr hd11)
      obtain ⟨nb, hnb⟩ : ∃ nb : Nat, 1 + x11 = nb := ⟨(1 + x11).toNat, by omega⟩
      have hnb4 : 1 ≤ nb ∧ nb ≤ 4 := by omega
      have HNb : Hid (1 + x11 = (nb : Int)) := hnb
      have hd312 : dpt 2 = 31 := rfl
      have H1011 : Hid (Tcs (S0 g) W10 w11) := hd11.tcs
      clear hd11 hnb
      go_wp2_with fail
      refine (block_any g a len cap I 2 (by omega) (stmt_any g a len cap I hl 2 (by omega)) nb (by omega) _ _ HNb.out rfl (S5 g T q F I (.slice fa fn fc)) _ 10 w11 HG11.out (by rw [hd312]; omega)).mono ?_
      rintro e w12 ⟨vb, rfl, Rb, G12, hr12, hl12, hg12, ht12⟩
      rw [hd312] at hr12 hg12
      obtain ⟨ba, bn, bc, rfl⟩ : ∃ x y z, vb = .slice x y z := by obtain ⟨x, y, e⟩ := hr12.shape; exact ⟨x, _, y, e⟩
      have hne := HNe.out
      have hF' := HF.out
      have hI' := HI.out
      have hB3' := HB3.out
      have t1012 : Tcs (Sq g I) W10 w12 := (H1011.out.mono s0q).trans ht12
      have hl10 : W3.heap.size ≤ W10.heap.size := HT10.out.size
      have hf12 : FrC w12 F [.string nm, .slice px pm py, .slice none 0 0] := HF10.out.tcs (by omega) t1012 (fun e => by rcases e with e | e <;> omega)
      have z2 := (hf12 2 _ rfl).1
      have z2z := (hf12 2 _ rfl).2
      obtain ⟨W13, hW13⟩ : ∃ W13, W13 = w12.setCell ⟨F, 2, none⟩ (.slice ba bn bc) := ⟨_, rfl⟩
      have HW13 : Hid (W13 = w12.setCell ⟨F, 2, none⟩ (.slice ba bn bc)) := hW13
      have tF : Tcs (fun b => b = F) w12 W13 := by rw [hW13]; exact (Tcs.refl (fun b => b = F) w12).setCell (p := ⟨F, 2, none⟩) rfl _
      have hs11 : W10.heap.size ≤ w11.heap.size := H1011.out.size
      have HF13 : Hid (FrC W13 F [.string nm, .slice px pm py, .slice ba bn bc]) := by rw [hW13]; exact hf12.set 2 _
      have HR13 : Hid (SR w11.heap.size W13 (.slice ba bn bc) Rb (nb * 31)) := hr12.tcs tF (fun b hb => by omega)
      have HG13 : Hid (GS g a len cap I (Sv (S5 g T q F I (.slice fa fn fc)) (.slice ba bn bc)) W13 G12 (10 + nb * 31)) := by rw [hW13]; exact hg12.side (.inl (.inr (.inr (.inr (.inl rfl))))) (by omega) (by omega)
      have HT13 : Hid (Tcs (fun b => b = g ∨ b = F ∨ b = I) W3 W13) := (HT10.out.trans (t1012.mono fun b hb => by rcases hb with h | h; exact .inl h; exact .inr (.inr h))).trans (tF.mono fun b hb => .inr (.inl hb))
      have HLb : Hid (nb ≤ Rb.length) := hl12
      have h1113 : w11.heap.size ≤ W13.heap.size := by have := ht12.size; have := tF.size; omega
      have HOs13 : Hid (∀ (S : Nat → Prop) W, Tcs S W13 W → (∀ b, S b → b < W3.heap.size ∨ w11.heap.size ≤ b) → Strs W (.slice px pm py) qs) := fun S W hW hS => HOs.out (fun b => S b ∨ b = g ∨ b = I ∨ b = F) W ((((t1012.mono (T := fun b => S b ∨ b = g ∨ b = I ∨ b = F) fun b hb => by rcases hb with h | h; exact .inr (.inl h); exact .inr (.inr (.inl h)))).trans (tF.mono fun b hb => .inr (.inr (.inr hb)))).trans (hW.mono fun b hb => .inl hb)) (fun b hb => by
       rcases hb with h | h | h | h
       ·have := hS b h; omega
       ·omega
       ·omega
       ·omega)
      have h311 : W3.heap.size ≤ w11.heap.size := by omega
      have HBS := hide (body_step (g := g) (a := a) (len := len) (cap := cap) HF13.out HR13.out ⟨by omega, h1113⟩ hF3.2.1 (HLo.out.mono (by omega)) (by omega))
      have HWh : Hid (Calls Tryz.prog 46 #[.pointer (some ⟨g, 0, none⟩), .agg #[G12.vc, G12.vp, G12.vs, G12.vl, .int .i64 G12.m]] W13.drew fun e w' => ∃ u ns, e = .returned u ∧ NRow W13.heap.size w' u ns ∧ okN ns 400 ∧ Dr g a len cap (S0 g) W13.drew w') := whole_any g a len cap (S0 g) G12 (10 + nb * 31) W13.drew hl HG13.out.lo0 (HG13.out.below (Below.refl _ _).drew).cur (HG13.out.below (Below.refl _ _).drew).ok0 (by omega)
      have c0 := HG13.out.box.c0
      have c1 := HG13.out.box.c1
      have c2 := HG13.out.box.c2
      have c3 := HG13.out.box.c3
      have c4 := HG13.out.box.c4
      have f2 := (HF13.out 2 _ rfl).1
      clear hr12 hl12 hg12 ht12 t1012 hf12 hW13 tF hne hF' hI' hB3' hl10 hs11 HOs HF10 HT10 HG10 HG11 H1011 HOx
      go_upto_region 19 with fail
      rw [← HW13.out]
      clear z2 z2z HW13
      go_cut [7] from 24 to 99 (fun iv W => iv = .int .i64 j ∧ BdD g a len cap F w11.heap.size (nb * 31) Rb.length nm (.slice px pm py) W13 W)
      case first =>
       go_region_law
        (first
        | (go_simp; (with_reducible refine Calls.mono HWh.out ?_); intro x w14 hx; obtain ⟨u14, ns, hxe, hn14, ho14, hd14⟩ := hx; subst hxe; obtain ⟨ua, un, uc, rfl⟩ : ∃ x y z, u14 = .slice x y z := (by obtain ⟨x, y, e, -⟩ := own_shape hn14; exact ⟨x, _, y, e⟩); obtain ⟨va, vn, vc, w15, r15, ⟨k2, k2a⟩, y15, f15, ⟨R', hb15, hb15'⟩, hb15a, hb15b, hb15c⟩ := HBS.out w14 ua un uc ns hn14 ho14 hd14; have HBd : Hid (BdD g a len cap F w11.heap.size (nb * 31) Rb.length nm (.slice px pm py) W13 (w15.setCell ⟨F, 2, none⟩ (.slice va vn vc))) := ⟨va, vn, vc, R', hb15a, hb15, hb15', hb15b, hb15c⟩; clear hn14 ho14 hd14 hb15 hb15' hb15a hb15b hb15c)
        | (refine step_appR rfl _ _ _ rfl _ _ _ _ rfl rfl r15 ?_))
       all_goals (
        clear r15 k2 k2a y15 f15 HBS HWh
        go_wp2_with fail
        go_meet
        case rel => exact ⟨rfl, HBd.out⟩)
      case rest =>
       obtain ⟨rfl, hbd⟩ := hcut
       clear c0 c1 c2 c3 c4 f2 HBS HWh
       obtain ⟨va, vn, vc, R', hF16, hr16, hrl, hcu16, ht16⟩ := hbd
       have hne := HNe.out
       have hF' := HF.out
       have hI' := HI.out
       have hB3' := HB3.out
       have hvFr : ∀ b, (Value.slice fa fn fc).ownBlock = some b → q < b ∧ b < F := fun b hb => ⟨by have := (Hfr.out.rng b hb).1; omega, by have := (Hfr.out.rng b hb).2; omega⟩
       have t316 : Tcs (fun b => b = g ∨ b = F ∨ b = I) W3 wc := HT13.out.next ht16 (fun b hb => by
        rcases hb with h | h | h
        ·exact .inl (.inl h)
        ·exact .inl (.inr (.inl h))
        ·exact .inr (by omega))
       have tr16 : Tcs (S0 g) Wr wc := (HB3.out.1.tcs (S := S0 g)).next t316 (fun b hb => by
        rcases hb with h | h | h
        ·exact .inl h
        ·exact .inr (by omega)
        ·exact .inr (by omega))
       have hfT16 : FrC wc T [.slice (some ⟨GL, 0, none⟩) 4 4, .slice fa fn fc] := HfT.out.tcs (by omega) tr16 (fun e => by have : T = g := e; omega)
       have hfq16 : FrC wc q [.slice ca cn cc, .slice pa pn pc, .slice none 0 0, .slice none 0 0, .int .i64 0] := Hfq.out.tcs (by omega) tr16 (fun e => by have : q = g := e; omega)
       have hfr16 := Hfr.out.tcs (tr16.mono (T := fun k => k < W2.heap.size) fun k hk => by have : k = g := hk; omega) (fun k hk => hk)
       have hps16 : ∀ W, Tcs (fun b => b < W3.heap.size) wc W → Strs W (.slice px pm py) qs := fun W hW => HOs13.out (fun b => b < W3.heap.size ∨ w11.heap.size ≤ b) W ((ht16.mono fun b hb => by
        rcases hb with h | h | h
        ·exact .inl (by omega)
        ·exact .inl (by omega)
        ·exact .inr h).trans (hW.mono fun b hb => .inl hb)) (fun b hb => hb)
       obtain ⟨na, nn, nc, w17, r17, ⟨t1, t1z⟩, hT17, hF17, ⟨Q', hfr17, hQ'⟩, hcu17, key17, tA17⟩ := func_step (g := g) (a := a) (len := len) (cap := cap) hfT16 hF16 hfr16 (by have := HQj.out; omega) hcu16 ⟨by omega, by omega, by have := tr16.size; omega, by omega, by have := t316.size; omega⟩ (HLo.out.mono (by omega)) hps16 (by omega) HQs.out HNms.out hr16 ⟨by omega, by omega⟩ (by omega) (fun b hb => by have := (hvFr b hb).2; omega)
       have hfq17 : FrC (w17.setCell ⟨T, 1, none⟩ (.slice na nn nc)) q [.slice ca cn cc, .slice pa pn pc, .slice none 0 0, .slice none 0 0, .int .i64 0] := hfq16.tcs (by have := tr16.size; omega) tA17 (fun e => by
        rcases e with e | e
        ·omega
        ·have := (hvFr q e).1; omega)
       have tr17 : Tcs (Sv (Sx g T q) (.slice fa fn fc)) Wr (w17.setCell ⟨T, 1, none⟩ (.slice na nn nc)) := (tr16.mono fun b hb => .inl (.inl hb)).trans (tA17.mono fun b hb => by
        rcases hb with h | h
        ·exact .inl (.inr (.inl h))
        ·exact .inr h)
       have hst17 := Hst.out _ tr17
       have tx1 := (hfT16 1 _ rfl).1
       have fx0 := (hF16 0 _ rfl).1
       have fx1 := (hF16 1 _ rfl).1
       have fx2 := (hF16 2 _ rfl).1
       obtain ⟨W17, hW17⟩ : ∃ W17, W17 = w17.setCell ⟨T, 1, none⟩ (.slice na nn nc) := ⟨_, rfl⟩
       have HW17 : Hid (W17 = w17.setCell ⟨T, 1, none⟩ (.slice na nn nc)) := hW17
       rw [← hW17] at hT17 hF17 hfr17 hcu17 tA17 hfq17 hst17 tr17
       have Hr17 := hide r17
       have hs217 : F < W17.heap.size := by have := tA17.size; have := t316.size; omega
       have HT17 := hide hT17
       have Hfr17 := hide hfr17
       have Hcu17 := hide hcu17
       have Hfq17 := hide hfq17
       have Hst17 := hide hst17
       have HtR17 := hide tr17
       have HtW17 : Hid (Tcs (Sx g T q) W2 W17) := (HTr.out.trans (tr16.mono fun b hb => .inl hb)).next tA17 (fun b hb => by
        rcases hb with h | h
        ·exact .inl (.inr (.inl h))
        ·exact .inr (by have := (Hfr.out.rng b h).1; omega))
       have HQ' : Hid (Q'.length = j + 1) := by show _ = _; have := HQj.out; omega
       have Hf0 := hide (hF17 0 _ rfl).1
       have hqlt : q < W17.heap.size := by omega
       clear hF16 hr16 hrl hcu16 ht16 t316 tr16 hfT16 hfq16 hfr16 hps16 r17 hT17 hF17 hfr17 hcu17 key17 tA17 hfq17 tr17 hst17 hW17 hvFr hne hF' hI' hB3' hQ' HG13 HF13 HR13 HT13 HOs13
       go_upto_region 21 with (at_builtin; refine wpList_appG rfl _ _ _ rfl _ _ _ _ rfl rfl Hr17.out ?_)
       rw [← HW17.out]
       clear tx1 fx0 fx1 fx2 t1 t1z HW17 Hr17
       go_cut [7] from 24 to 99 (fun iv W => iv = .int .i64 j ∧ CalD q W17 (.slice pa pn pc) (cs ++ [nm]) W)
       case first =>
        have PA := hide (appA W17 _ _ Hst17.out.1)
        have PB := hide (appB W17 _ _ nm Hst17.out.1)
        have PC := hide (appC W17 _ _ nm Hst17.out.1)
        have e0 := (Hfq17.out 0 _ rfl).1
        have e1 := Hf0.out
        have eA : ∀ o, (W17.alloc o).cell? ⟨q, 0, none⟩ = some (.slice ca cn cc) := fun o => (World.cell?_alloc_past o q 0 hqlt).trans e0
        have eB : ∀ o, (W17.alloc o).cell? ⟨F, 0, none⟩ = some (.string nm) := fun o => (World.cell?_alloc_past o F 0 hs217).trans e1
        have hq2 : q < W17.heap.size + 1 := by omega
        have eC : ∀ o o', ((W17.alloc o).alloc o').cell? ⟨q, 0, none⟩ = some (.slice ca cn cc) := fun o o' => (World.cell?_alloc_past o' q 0 (by simp; omega)).trans (eA o)
        have hcl : cs.length ≤ 10 := by have := HQj.out; omega
        have HNx : Hid (∀ w2 v2, Below W17.heap.size W17 w2 → w2.ownsRow W17.heap.size 9 1 v2 (cs ++ [nm]).length ((cs ++ [nm]).map Value.string) → _) := fun w2 v2 h1 h2 => cal_fin (cs := cs ++ [nm]) Hfq17.out hqlt h1 h2
        go_region_law
         (first
         | (refine step_appS (by rfl) _ _ (by rfl) W17.heap.size (.slice (some ⟨W17.heap.size, 0, none⟩) 0 0) [] (by rfl) PA.out.1 (.slice ca cn cc) cs (by rfl) PA.out.2.1 (by simp; omega) PA.out.2.2.size ?_; intro v1 w1 hr1 hg1 hf1; have hb1 : Below W17.heap.size W17 w1 := appN PA.out.2.2 PA.out.1 hg1; have yF := (hb1.cell (p := ⟨F, 0, none⟩) hs217).trans e1)
         | (refine step_appS (by rfl) _ _ (by rfl) W17.heap.size (.slice (some ⟨W17.heap.size, 0, none⟩) 0 0) [] (by rfl) PB.out.1 (.slice ca cn cc) cs (by rfl) PB.out.2.1 (by simp; omega) PB.out.2.2.1.size ?_; intro v1 w1 hr1 hg1 hf1; have hb1 : Below W17.heap.size W17 w1 := appN PB.out.2.2.1 PB.out.1 hg1; have hcB : w1.cell? ⟨W17.heap.size + 1, 0, none⟩ = some (.string nm) := (World.cell?_of_block (a := ⟨W17.heap.size + 1, 0, none⟩) (hg1.block _ (by simp) (by simp [Value.ownBlock]))).trans PB.out.2.2.2)
         | (refine step_appS (by rfl) _ _ (by rfl) W17.heap.size (.slice (some ⟨W17.heap.size + 1, 0, none⟩) 0 0) [] (by rfl) PC.out.1 (.slice ca cn cc) cs (by rfl) PC.out.2.1 (by simp; omega) PC.out.2.2.1.size ?_; intro v1 w1 hr1 hg1 hf1; have hb1 : Below W17.heap.size W17 w1 := appN PC.out.2.2.1 PC.out.1 hg1; have hcC : w1.cell? ⟨W17.heap.size, 0, none⟩ = some (.string nm) := (World.cell?_of_block (a := ⟨W17.heap.size, 0, none⟩) (hg1.block _ (by simp; omega) (by simp [Value.ownBlock]))).trans PC.out.2.2.2)
         | (refine step_appS (by rfl) _ _ (by rfl) W17.heap.size v1 cs (by rfl) (SRow.below hr1 ((Below.refl _ _).alloc (Nat.le_refl _) _)) (.slice (some ⟨w1.heap.size, 0, none⟩) 1 1) [nm] (by rfl) (ssrc_1 w1 nm 9) (by simp; omega) (Nat.le_trans hb1.size (by simp)) ?_; intro v2 w2 hr2 hg2 hf2; obtain ⟨xa, xn, xc, rfl, ⟨zq, zqz⟩, hcd⟩ := HNx.out w2 v2 (appN (hb1.alloc hb1.size _) (SRow.below hr1 ((Below.refl _ _).alloc (Nat.le_refl _) _)) hg2) hr2)
         | (refine step_appS (by rfl) _ _ (by rfl) W17.heap.size v1 cs (by rfl) hr1 (.slice (some ⟨W17.heap.size + 1, 0, none⟩) 1 1) [nm] (by rfl) (ssrc_cell hcB) (by simp; omega) hb1.size ?_; intro v2 w2 hr2 hg2 hf2; obtain ⟨xa, xn, xc, rfl, ⟨zq, zqz⟩, hcd⟩ := HNx.out w2 v2 (appN hb1 hr1 hg2) hr2)
         | (refine step_appS (by rfl) _ _ (by rfl) W17.heap.size v1 cs (by rfl) hr1 (.slice (some ⟨W17.heap.size, 0, none⟩) 1 1) [nm] (by rfl) (ssrc_cell hcC) (by simp; omega) hb1.size ?_; intro v2 w2 hr2 hg2 hf2; obtain ⟨xa, xn, xc, rfl, ⟨zq, zqz⟩, hcd⟩ := HNx.out w2 v2 (appN hb1 hr1 hg2) hr2))
        all_goals (
         have HCd := hide hcd
         clear hcd
         go_wp2_with fail
         go_meet
         case rel => exact ⟨rfl, HCd.out⟩)
       case rest =>
        obtain ⟨rfl, xa, xn, xc, hq18, ho18, t18⟩ := hcut
        have hne := HNe.out
        have hint : Ints wc (.slice pa pn pc) ps := (Hst.out wc (HtR17.out.trans (t18.mono fun b hb => .inl (.inr (.inr hb))))).2
        obtain ⟨vi1, wi1, ya, yn, yc, wi2, ri1, ri2, oi, bi⟩ := ia_app wc (.slice pa pn pc) ps (k : Int) hint (by have := HQj.out; omega) 31
        have y1 := (hq18 1 _ rfl).1
        have y1a := ((hq18.below ((Below.refl wc.heap.size wc).alloc (Nat.le_refl _) (.cells #[] 2))) 1 _ rfl).1
        have hqi := hq18.below bi
        have z1 := (hqi 1 _ rfl).1
        have z1z := (hqi 1 _ rfl).2
        obtain ⟨W22, hW22⟩ : ∃ W22, W22 = wi2.setCell ⟨q, 1, none⟩ (.slice ya yn yc) := ⟨_, rfl⟩
        have HW22 : Hid (W22 = wi2.setCell ⟨q, 1, none⟩ (.slice ya yn yc)) := hW22
        have tS : Tcs (fun b => b = q) wi2 W22 := by rw [hW22]; exact (Tcs.refl (fun b => b = q) wi2).setCell (p := ⟨q, 1, none⟩) rfl _
        have t1722 : Tcs (fun b => b = q) W17 W22 := (t18.of_below bi).trans tS
        have hq22 : FrC W22 q [.slice xa xn xc, .slice ya yn yc, .slice none 0 0, .slice none 0 0, .int .i64 0] := by rw [hW22]; exact hqi.set 1 _
        have hsx : ∀ b, Sv (Sx g T q) (.slice na nn nc) b → b < W17.heap.size := fun b hb => by
         rcases hb with (h | h | h) | h
         ·omega
         ·omega
         ·omega
         ·exact (Hfr17.out.rng b h).2
        have HLN : Hid (LI g a len cap T q GL W2.heap.size W2 W22 (j + 1)) := by
         refine ⟨Hcu17.out.keep t1722 (by omega) (fun b off x y e => by have := (HLo.out.by8 b off x y).1; omega), HtW17.out.trans (t1722.mono fun b hb => .inr (.inr hb)), na, nn, nc, Q', HT17.out.tcs (by omega) t1722 (by omega), Hfr17.out.tcs (t1722.mono (T := fun b => b < W2.heap.size) fun b hb => by omega) (fun b hb => hb), HQ'.out, xa, xn, xc, ya, yn, yc, cs ++ [nm], ps ++ [(k : Int)], hq22, fun W hW => ⟨?_, ?_⟩, ?_, ?_, ?_, ?_⟩
         ·have h1 := own_tcs ho18 ((bi.tcs (S := fun b => b < W17.heap.size)).trans (tS.mono fun b hb => by omega)) (fun b hb => hb)
          exact own_strs (own_tcs h1 hW hsx)
         ·have h2 := own_tcs oi (tS.mono (T := fun b => b < wc.heap.size) fun b hb => by have := t18.size; omega) (fun b hb => hb)
          exact own_ints (own_tcs h2 hW (fun b hb => Nat.lt_of_lt_of_le (hsx b hb) t18.size))
         ·have := HQj.out; simp; omega
         ·have := HQj.out; simp; omega
         ·intro x hx
          rcases List.mem_append.1 hx with hx | hx
          ·exact Hpb.out.1 x hx
          ·simp only [List.mem_singleton] at hx
           subst hx
           omega
         ·intro x hx
          rcases List.mem_append.1 hx with hx | hx
          ·exact Hpb.out.2 x hx
          ·simp only [List.mem_singleton] at hx
           subst hx
           exact HNms.out
        have Hri1 := hide ri1
        have Hri2 := hide ri2
        clear hq18 ho18 t18 hne hint oi bi hqi hW22 tS t1722 hq22 hsx ri1 ri2
        go_wp2_with (at_builtin; first
         | refine wpList_appG rfl (.tmp 92) (.tmp 94) _ rfl _ _ _ _ rfl rfl Hri1.out ?_
         | refine wpList_appG rfl (.tmp 95) (.tmp 97) _ rfl _ _ _ _ rfl rfl Hri2.out ?_)
        rw [← HW22.out]
        go_roundw
        case rel => exact ⟨j + 1, by omega, by go_num, HLN.out⟩
        case measure => simp [RowKit.intOf]; omega
  ·have hne := HNe.out
   have hsr : W2.heap.size ≤ Wr.heap.size := htr.size
   have hjn : j ≤ 3 := by omega
   have hvF : ∀ b, (Value.slice fa fn fc).ownBlock = some b → q < b ∧ b < Wr.heap.size := fun b hb => ⟨by have := (hfr.rng b hb).1; omega, (hfr.rng b hb).2⟩
   have hgs := gs_main (a := a) (len := len) (cap := cap) hst ⟨by omega, by omega⟩ ⟨hpb, hcb⟩ HLI.out.cur ⟨by omega, by omega, by omega, by omega⟩ (HLo.out.mono (by omega)) (by omega) hvF
   obtain ⟨I, hI⟩ : ∃ I, I = Wr.heap.size := ⟨_, rfl⟩
   obtain ⟨W3, hW3⟩ : ∃ W3, W3 = Wr.alloc (.cells #[.slice ca cn cc, .slice pa pn pc, .slice none 0 0, .slice none 0 0, .int .i64 0] 80) := ⟨_, rfl⟩
   have HI : Hid (I = Wr.heap.size) := hI
   have HW3 : Hid (W3 = Wr.alloc (.cells #[.slice ca cn cc, .slice pa pn pc, .slice none 0 0, .slice none 0 0, .int .i64 0] 80)) := hW3
   rw [← hW3, ← hI] at hgs
   have HG3 := hide hgs
   have hb3 : Below Wr.heap.size Wr W3 := by rw [hW3]; exact (Below.refl _ _).alloc (Nat.le_refl _) _
   have hs3 : W3.heap.size = Wr.heap.size + 1 := by rw [hW3]; simp
   have HB3 : Hid (Below Wr.heap.size Wr W3 ∧ W3.heap.size = Wr.heap.size + 1) := ⟨hb3, hs3⟩
   have q0 := (hfq 0 _ rfl).1
   have q1 := (hfq 1 _ rfl).1
   have HfT := hide hfT
   have Hfr := hide hfr
   have HTr := hide htr
   have HQl : Hid (Q.length ≤ 3) := by show _ ≤ _; omega
   clear hne hvF hgs hI hW3 hb3 hs3 hfT hfr htr hQj hfq hst hcj hpj hpb hcb
   go_upto_region 24 with fail
   rw [← HW3.out, ← HI.out]
   clear q0 q1 HW3
   go_wp2_with fail
   refine (below_any g a len cap (S0 g) _ _ hl hS0 HG3.out.cur (by omega)).mono ?_
   rintro e w4 ⟨x4, rfl, hx4, hd4⟩
   have HG4 := hide (HG3.out.dr hd4)
   have H34 : Hid (Tcs (S0 g) W3 w4) := hd4.tcs
   obtain ⟨nb, hnb⟩ : ∃ nb : Nat, 2 + x4 = nb := ⟨(2 + x4).toNat, by omega⟩
   have hnb4 : 2 ≤ nb ∧ nb ≤ 7 := by omega
   have HNb : Hid (2 + x4 = (nb : Int)) := hnb
   have hd312 : dpt 3 = 127 := rfl
   clear hd4 hnb
   go_wp2_with fail
   refine (block_any g a len cap I 3 (by omega) (stmt_any g a len cap I hl 3 (by omega)) nb (by omega) _ _ HNb.out rfl (S4 g T q I (.slice fa fn fc)) _ 10 w4 HG4.out (by rw [hd312]; omega)).mono ?_
   rintro e w5 ⟨vb, rfl, Rb, G5, hr5, hl5, hg5, ht5⟩
   rw [hd312] at hr5 hg5
   obtain ⟨ba, bn, bc, rfl⟩ : ∃ x y z, vb = .slice x y z := by obtain ⟨x, y, e⟩ := hr5.shape; exact ⟨x, _, y, e⟩
   obtain ⟨F, hF⟩ : ∃ F, F = w5.heap.size := ⟨_, rfl⟩
   obtain ⟨W6, hW6⟩ : ∃ W6, W6 = w5.alloc (.cells #[.string ⟨#[109, 97, 105, 110]⟩, .slice none 0 0, .slice ba bn bc] 61) := ⟨_, rfl⟩
   have HF : Hid (F = w5.heap.size) := hF
   have HW6 : Hid (W6 = w5.alloc (.cells #[.string ⟨#[109, 97, 105, 110]⟩, .slice none 0 0, .slice ba bn bc] 61)) := hW6
   have hb6 : Below w5.heap.size w5 W6 := by rw [hW6]; exact (Below.refl _ _).alloc (Nat.le_refl _) _
   have HF6 : Hid (FrC W6 F [.string ⟨#[109, 97, 105, 110]⟩, .slice none 0 0, .slice ba bn bc]) := by rw [hW6, hF]; exact box_fr w5 _ _ (by simp)
   have hFs : F < W6.heap.size := by rw [hW6, hF]; simp
   have HFs := hide hFs
   have HC6 : Hid (Cur g a len cap W6) := hg5.cur.below hb6
   have HR6 : Hid (SR w4.heap.size W6 (.slice ba bn bc) Rb (nb * 127)) := hr5.below hb6
   have t36 : Tcs (Sq g I) W3 W6 := ((H34.out.mono s0q).trans ht5).of_below hb6
   have HT6 : Hid (Tcs (S0 g) Wr W6) := (HB3.out.1.tcs (S := S0 g)).next t36 (fun b hb => by
    rcases hb with h | h
    ·exact .inl h
    ·exact .inr (by have := HI.out; omega))
   have HLr : Hid (nb ≤ Rb.length) := hl5
   have HS4 : Hid (Wr.heap.size < w4.heap.size ∧ w4.heap.size ≤ F) := ⟨by have := H34.out.size; have := HB3.out.2; omega, by rw [hF]; exact ht5.size⟩
   clear hr5 hl5 hg5 ht5 hF hW6 hb6 t36 HG3 HG4 hFs
   go_upto_region 25 with fail
   rw [← HW6.out, ← HF.out]
   clear HW6
   go_wp2_with fail
   refine (once_any g a len cap (S0 g) _ _ hl hS0 HC6.out (by omega)).mono ?_
   rintro e w7 ⟨b7, rfl, hd7⟩
   have hne := HNe.out
   have hS4 := HS4.out
   have tr7 : Tcs (S0 g) Wr w7 := HT6.out.trans hd7.tcs
   have hs7 : Wr.heap.size ≤ w7.heap.size := tr7.size
   have nS : ∀ b, w.heap.size ≤ b → ¬ S0 g b := fun b hb e => by have : b = g := e; omega
   have hfT7 := HfT.out.tcs (by omega) tr7 (nS T (by omega))
   have hfr7 := Hfr.out.tcs (tr7.mono (T := fun k => k < W2.heap.size) fun k hk => by have : k = g := hk; omega) (fun k hk => hk)
   have hF7 := HF6.out.tcs HFs.out hd7.tcs (nS F (by omega))
   have hr7 := HR6.out.tcs hd7.tcs (fun k hk => by have : k = g := hk; omega)
   have tW7 : Tcs (Sx g T q) W2 w7 := HTr.out.trans (tr7.mono fun b hb => .inl hb)
   have t1 := (hfT7 1 _ rfl).1
   have f0 := (hF7 0 _ rfl).1
   have f1 := (hF7 1 _ rfl).1
   have f2 := (hF7 2 _ rfl).1
   have hQl := HQl.out
   have hLr := HLr.out
   have hvF : ∀ b, (Value.slice fa fn fc).ownBlock = some b → b < w4.heap.size ∧ b < w4.heap.size ∧ b ≠ F := fun b hb => by have := (Hfr.out.rng b hb).2; omega
   have hF7s : F < w7.heap.size := Nat.lt_of_lt_of_le HFs.out hd7.tcs.size
   have hnn : ∀ W : World, Strs W (.slice none 0 0) [] := fun W => ⟨none, 0, rfl, Nat.le_refl _, by omega, fun h => absurd h (Nat.lt_irrefl _)⟩
   obtain ⟨na, nn, nc, wn, rn, ⟨n1, n1z⟩, hTn, -, ⟨Qn, hfrn, hQn⟩, hcun, -, tAn⟩ := func_step (g := g) (a := a) (len := len) (cap := cap) (Bp := w4.heap.size) (qs := []) hfT7 hF7 hfr7 (by omega) hd7.cur ⟨by omega, by omega, by omega, by omega, hF7s⟩ (HLo.out.mono (by omega)) (fun W _ => hnn W) (by omega) ⟨by simp, fun x hx => by cases hx⟩ (by decide) hr7 ⟨by omega, by omega⟩ (by omega) hvF
   obtain ⟨ma, mn, mc, wm, rm, ⟨m1, m1z⟩, hTm, ⟨Qm, hfrm, hQm⟩, hcum, tAm⟩ := front_step (g := g) (a := a) (len := len) (cap := cap) (nm := ⟨#[109, 97, 105, 110]⟩) hfT7 hfr7 (by omega) hd7.cur ⟨by omega, by omega, by omega⟩ (HLo.out.mono (by omega)) (by decide) hr7 ⟨by omega, by omega⟩ (by omega)
   have fin : ∀ (W : World) (xa : Option Addr) (xn xc : Nat) (Qx : List FV), Tcs (Sx g T q) W2 W → FrC W T [.slice (some ⟨GL, 0, none⟩) 4 4, .slice xa xn xc] → FR (fun k => k < W2.heap.size) W2.heap.size W (.slice xa xn xc) Qx → Qx.length = Q.length + 1 → Cur g a len cap W → (W.cell? ⟨T, 0, none⟩ = some (.slice (some ⟨GL, 0, none⟩) 4 4) ∧ W.cell? ⟨T, 1, none⟩ = some (.slice xa xn xc)) ∧ FrC W R0 [.slice none 0 0, .slice none 0 0] ∧ FrC ((W.setCell ⟨R0, 0, none⟩ (.slice (some ⟨GL, 0, none⟩) 4 4)).setCell ⟨R0, 1, none⟩ (.slice xa xn xc)) R0 [.slice (some ⟨GL, 0, none⟩) 4 4, .slice xa xn xc] ∧ (∃ t, TD (fun k => k < w.heap.size) ((W.setCell ⟨R0, 0, none⟩ (.slice (some ⟨GL, 0, none⟩) 4 4)).setCell ⟨R0, 1, none⟩ (.slice xa xn xc)) (.slice (some ⟨GL, 0, none⟩) 4 4) (.slice xa xn xc) t) ∧ Dr g a len cap (S0 g) w ((W.setCell ⟨R0, 0, none⟩ (.slice (some ⟨GL, 0, none⟩) 4 4)).setCell ⟨R0, 1, none⟩ (.slice xa xn xc)) := fun W xa xn xc Qx ht hT hf hQ hc => by
    have hW2 := ht.size
    have tR : Tcs (fun b => b = R0) W ((W.setCell ⟨R0, 0, none⟩ (.slice (some ⟨GL, 0, none⟩) 4 4)).setCell ⟨R0, 1, none⟩ (.slice xa xn xc)) := ((Tcs.refl (fun b => b = R0) W).setCell (p := ⟨R0, 0, none⟩) rfl _).setCell (p := ⟨R0, 1, none⟩) rfl _
    have nx : ∀ b, b = GL ∨ b = R0 → ¬ Sx g T q b := fun b hb e => by rcases e with e | e | e <;> omega
    have hgl : FrC W GL gcells := HCg.out.tcs (by omega) ht (nx GL (.inl rfl))
    refine ⟨⟨(hT 0 _ rfl).1, (hT 1 _ rfl).1⟩, HC0.out.tcs (by omega) ht (nx R0 (.inr rfl)), ((HC0.out.tcs (by omega) ht (nx R0 (.inr rfl))).set 0 _).set 1 _, td_fin (g := g) (a := a) (len := len) (cap := cap) (W2 := W) (hgl.tcs (by omega) tR (by omega)) ⟨by omega, by have := tR.size; omega⟩ (hf.tcs (tR.mono (T := fun b => b < W2.heap.size) fun b hb => by omega) (fun b hb => hb)) (by omega) ⟨by omega, by omega⟩, hc.keep tR (by omega) (fun b off x y e => by have := (HLo.out.by8 b off x y).1; omega), ?_⟩
    refine (HD2.out.tcs.next ht (fun b hb => ?_)).next tR (fun b hb => .inr (by omega))
    rcases hb with h | h | h
    ·exact .inl h
    ·exact .inr (by omega)
    ·exact .inr (by omega)
   have HFin := hide fin
   have hXn : Tcs (Sx g T q) W2 (wn.setCell ⟨T, 1, none⟩ (.slice na nn nc)) := tW7.next tAn (fun b hb => by
    rcases hb with h | h
    ·exact .inl (.inr (.inl h))
    ·exact .inr (by have := (Hfr.out.rng b h).1; omega))
   have hXm : Tcs (Sx g T q) W2 (wm.setCell ⟨T, 1, none⟩ (.slice ma mn mc)) := tW7.trans (tAm.mono fun b hb => .inr (.inl hb))
   obtain ⟨⟨en0, en1⟩, ern, eqn, en2, en3⟩ := fin _ na nn nc Qn hXn hTn hfrn hQn hcun
   obtain ⟨⟨em0, em1⟩, erm, eqm, em2, em3⟩ := fin _ ma mn mc Qm hXm hTm hfrm hQm hcum
   have rn0 := ern 0 _ rfl
   have rn1 := ern 1 _ rfl
   have rm0 := erm 0 _ rfl
   have rm1 := erm 1 _ rfl
   have Hrn := hide rn
   have Hrm := hide rm
   have HQn := hide (And.intro (eqn 0 _ rfl).1 (eqn 1 _ rfl).1)
   have HQm := hide (And.intro (eqm 0 _ rfl).1 (eqm 1 _ rfl).1)
   have HEn := hide (And.intro en2 en3)
   have HEm := hide (And.intro em2 em3)
   obtain ⟨Wn, hWn⟩ : ∃ Wn, Wn = wn.setCell ⟨T, 1, none⟩ (.slice na nn nc) := ⟨_, rfl⟩
   obtain ⟨Wm, hWm⟩ : ∃ Wm, Wm = wm.setCell ⟨T, 1, none⟩ (.slice ma mn mc) := ⟨_, rfl⟩
   have HWn := hide hWn
   have HWm := hide hWm
   rw [← hWn] at en0 en1 rn0 rn1 HEn HQn
   rw [← hWm] at em0 em1 rm0 rm1 HEm HQm
   have f0a : (w7.alloc (.cells #[.string ⟨#[109, 97, 105, 110]⟩, .slice none 0 0, .slice ba bn bc] 61)).cell? ⟨T, 1, none⟩ = some (.slice fa fn fc) := (World.cell?_alloc_past _ T 1 (by omega)).trans t1
   obtain ⟨rn0, rn0z⟩ := rn0
   obtain ⟨rn1, rn1z⟩ := rn1
   obtain ⟨rm0, rm0z⟩ := rm0
   obtain ⟨rm1, rm1z⟩ := rm1
   clear hd7 hne hS4 tr7 hs7 nS hfT7 hfr7 hF7 hr7 tW7 hQl hLr hvF hnn rn hTn hfrn hQn hcun tAn rm hTm hfrm hQm hcum tAm fin hXn hXm ern en2 en3 erm em2 em3 eqn eqm hWn hWm HFin HfT Hfr HTr HQl HLI HF6 HR6 HT6 HLr HS4 HC6 HCT HCN HCq HCu HCg HC0 HD2 HNe
   cases b7
   ·clear em0 em1 rm0 rm1 rm0z rm1z m1 m1z f0a
    go_upto_region 28 with (at_builtin; refine wpList_appG rfl _ _ _ rfl _ _ _ _ rfl rfl Hrn.out ?_)
    rw [← HWn.out]
    clear n1 n1z t1 f0 f1 f2
    go_wp2_with fail
    refine bodyPost_ret (by simp [results, Tryz.results19, go_sem, HQn.out.1, HQn.out.2]; try rfl) rfl ?_
    exact ⟨_, _, rfl, HEn.out.1, HEn.out.2⟩
   ·clear en0 en1 rn0 rn1 rn0z rn1z n1 n1z
    go_upto_region 28 with (at_builtin; refine wpList_appG rfl _ _ _ rfl _ _ _ _ rfl rfl Hrm.out ?_)
    rw [← HWm.out]
    clear m1 m1z t1 f0 f1 f2 f0a
    go_wp2_with fail
    refine bodyPost_ret (by simp [results, Tryz.results19, go_sem, HQm.out.1, HQm.out.2]; try rfl) rfl ?_
    exact ⟨_, _, rfl, HEm.out.1, HEm.out.2⟩
end
end Go.Proofs.YtjhmgjimppflhaaGreatDoor
