import Derived.Test.YtjhmgjimppflhaaGreatDoorY49
import Derived.Deep.RegionHeldLaw
import Derived.Deep.Cut
import Derived.Deep.RegionLaw
set_option linter.unusedSectionVars false
variable [Inhabited Go.Proofs.YtjhmgjimppflhaaGreatDoor.Pick]
namespace Go.Proofs.YtjhmgjimppflhaaGreatDoor
set_option linter.unusedVariables false
set_option linter.unusedSimpArgs false
set_option maxRecDepth 100000
set_option maxHeartbeats 16000000
section
open Go.RowKit
theorem StP.from {g : Nat} {a : Option Addr} {len cap q : Nat} {S : Nat → Prop} {K L m : Nat} {w w1 w' : World} {v : Value} (h : StP g a len cap q S K L m w1 v w') (ht : Tcs (Sq g q) w w1) : StP g a len cap q S K L m w v w' := by
 obtain ⟨R, G', h1, h2, h3, h4⟩ := h
 exact ⟨R, G', h1.low ht.size, h2, h3, ht.trans h4⟩
theorem GS.k0 {g : Nat} {a : Option Addr} {len cap q : Nat} {S : Nat → Prop} {w : World} {G : Gn} {K : Nat} (h : GS g a len cap q S w G K) : ∀ k, Sq g q k → k < w.heap.size := fun k hk => h.lo.s k (h.sqs k hk)
theorem GS.cs {g : Nat} {a : Option Addr} {len cap q : Nat} {S : Nat → Prop} {w : World} {G : Gn} {K : Nat} (h : GS g a len cap q S w G K) : ∃ a c, G.vc = .slice a G.cs.length c := by
 obtain ⟨a, c, e, -⟩ := h.ok.c w (Tcs.refl _ _)
 exact ⟨a, c, e⟩
set_option maxRecDepth 100000 in
set_option maxHeartbeats 16000000 in
theorem stmt_step (g : Nat) (a : Option Addr) (len cap q : Nat) (hl : len ≤ 1048576) (d : Nat) (hd : d ≤ 4) (hX : ∀ d', d = d' + 1 → StC g a len cap q d') : StC g a len cap q d := by
 intro z S G K w hz h hK
 have hdb := dpt_le hd
 obtain ⟨L, hL⟩ : ∃ L, L = dpt d := ⟨_, rfl⟩
 have HLd : Hid (L = dpt d) := hL
 have HX : Hid (∀ d', d = d' + 1 → StC g a len cap q d') := hX
 rw [← hL] at hdb hK ⊢
 have HG : Hid (GS g a len cap q S w G K) := h
 have HZ : Hid (z = d) := hz
 have hzb : 0 ≤ z ∧ z ≤ 4 := by omega
 have hS0 : S0 g g := rfl
 clear hX hL h hz
 go_enter Tryz.func76, Tryz.ntmps76
 go_wp2_with fail
 refine (below_any g a len cap (S0 g) _ _ hl hS0 HG.out.cur (by omega)).mono ?_
 rintro e w1 ⟨k, rfl, hk, hd1⟩
 have HG1 : Hid (GS g a len cap q S w1 G K) := HG.out.dr hd1
 have HT1 : Hid (Tcs (Sq g q) w w1) := hd1.tcs.mono s0q
 have hs1 : w.heap.size ≤ w1.heap.size := hd1.tcs.size
 have x0 := HG1.out.box.c0
 have x1 := HG1.out.box.c1
 have x2 := HG1.out.box.c2
 have x3 := HG1.out.box.c3
 have x4 := HG1.out.box.c4
 clear hd1
 have hk14 : (k = 0 ∨ k = 1) ∨ (k = 2 ∨ k = 3) ∨ (k = 4 ∨ k = 5) ∨ (k = 6 ∨ k = 7) ∨ k = 8 ∨ k = 9 ∨ k = 10 ∨ (k = 11 ∨ k = 12) ∨ k = 13 := by omega
 rcases hk14 with hk14 | hk14 | hk14 | hk14 | rfl | rfl | rfl | hk14 | rfl
 ·rcases hk14 with rfl | rfl
  all_goals (
   go_wp2_with fail
   refine (whole_any g a len cap (S0 g) G K w1 hl HG1.out.lo0 HG1.out.cur HG1.out.ok0 (by omega)).mono ?_
   rintro e w2 ⟨u2, e2, rfl, hr2, hn2, hd2⟩
   obtain ⟨a2, c2, rfl, -⟩ := own_shape hr2
   have HG2 : Hid (GS g a len cap q S w2 G K) := HG1.out.dr hd2
   have HT2 : Hid (Tcs (Sq g q) w w2) := HT1.out.trans (hd2.tcs.mono s0q)
   have HN2 : Hid (∀ W, Tcs (fun k => k < w.heap.size) w2 W → Nodes W (.slice a2 e2.length c2) e2) := nrow_st hr2 HT1.out.size
   have HO2 : Hid (okN e2 3000) := hn2.e3 (by omega)
   generalize e2.length = l2 at HN2 ⊢
   clear hr2 hn2 hd2 x0 x1 x2 x3 x4
   go_wp2_with fail
   refine (newName_any g a len cap q S G K w2 HG2.out (by omega)).mono ?_
   rintro e w3 ⟨nm, rfl, hn3, hg3, ht3⟩
   have HNm : Hid (nm.size ≤ 100000) := hn3
   have hsl : G.ss.length ≤ K := HG.out.ok.sl
   obtain ⟨va1, wa1, xa, xn, xc, wa2, ra1, ra2, oa, ba⟩ := sc_app w3 G.vs G.ss nm (hg3.ok.s w3 (Tcs.refl _ _)) (by omega) 58
   have hg5 := scope_set hg3 ba oa HG.out.ok.ns.2.1 hn3 (by omega)
   have c2' : w3.cell? ⟨q, 2, none⟩ = some G.vs := hg3.box.c2
   have c2a : (w3.alloc (.cells #[] 9)).cell? ⟨q, 2, none⟩ = some G.vs := (hg3.alloc _).box.c2
   have ha2 := (hg3.below ba).box
   have d2 : wa2.cell? ⟨q, 2, none⟩ = some G.vs := ha2.c2
   have f2 : wa2.frozen? ⟨q, 2, none⟩ = false := ha2.fz 2
   obtain ⟨W5, hW5⟩ : ∃ W5, W5 = wa2.setCell ⟨q, 2, none⟩ (.slice xa xn xc) := ⟨_, rfl⟩
   have HW5 : Hid (W5 = wa2.setCell ⟨q, 2, none⟩ (.slice xa xn xc)) := hW5
   have ht25 : Tcs (Sq g q) w2 W5 := by rw [hW5]; exact (ht3.of_below ba).trans (set_sq wa2 (.slice xa xn xc))
   rw [← hW5] at hg5
   have HF : Hid (StP g a len cap q S K L 1 w (.slice (some ⟨W5.heap.size, 0, none⟩) 1 1) (W5.alloc (.cells #[.int .i64 1, .string nm, .slice a2 l2 c2, .slice none 0 0, .int .i64 0, .int .i64 0] 88))) := one_fin (L := L) 1 0 0 nm (hg5.more (by omega)) (HT2.out.trans ht25) (fun W hW => HN2.out W ((ht25.mono HG.out.k0).trans hW)) (fun W _ => nodes_none W) HO2.out (okN.nil.more (Nat.zero_le _)) HNm.out (by omega)
   have Hra1 : Hid _ := ra1
   have Hra2 : Hid _ := ra2
   clear hn3 hg3 ht3 oa hg5 ha2 ra1 ra2 ba ht25 hW5
   generalize G.vs = gvs at c2' c2a d2 Hra1
   go_upto_region 8 with (at_builtin; first
    | refine wpList_appG rfl (.tmp 32) (.tmp 36) _ rfl _ _ _ _ rfl rfl Hra1.out ?_
    | refine wpList_appG rfl (.tmp 37) (.tmp 39) _ rfl _ _ _ _ rfl rfl Hra2.out ?_)
   rw [← HW5.out]
   clear c2' c2a d2 f2 HW5 Hra1 Hra2
   go_wp2_with fail
   go_ret
   exact ⟨_, rfl, HF.out⟩)
 ·rcases hk14 with rfl | rfl
  all_goals (
   go_wp2_with fail
   refine (set_any g a len cap q hl S G K L (by omega) w1 HG1.out (by omega)).mono ?_
   rintro e w2 ⟨v, rfl, hst⟩
   have HF : Hid (StP g a len cap q S K L 1 w v w2) := hst.from HT1.out
   clear hst
   go_wp2_with fail
   go_ret
   exact ⟨_, rfl, HF.out⟩)
 ·rcases hk14 with rfl | rfl
  all_goals (
   go_wp2_with fail
   refine (expr_any g a len cap (S0 g) hl 2 (by omega) 2 G K w1 rfl HG1.out.lo0 HG1.out.cur HG1.out.ok0 (by omega)).mono ?_
   rintro e w2 ⟨u2, e2, rfl, hr2, hn2, hd2⟩
   have HG2 : Hid (GS g a len cap q S w2 G K) := HG1.out.dr hd2
   have HT2 : Hid (Tcs (Sq g q) w w2) := HT1.out.trans (hd2.tcs.mono s0q)
   have hx57 : xpt 2 = 57 := rfl
   have HN2 : Hid (Nodes w2 u2 e2) := NRow.nodes hr2
   have HO2 : Hid (okN e2 57) := hn2
   have hl2 : e2.length ≤ 57 := hn2.1
   clear hr2 hn2 hd2 x0 x1 x2 x3 x4 hx57
   go_wp2_with fail
   refine (join_any e2 _ _ _ _ u2 _ _ (HN2.out.below ((Below.refl _ _).alloc (Nat.le_refl _) _)) (nrow_lit w2 0 (Nat.zero_le _) _ _ _).nodes (by simp; omega)).mono ?_
   rintro e w3 ⟨u3, rfl, hr3, hb3⟩
   have hb3' := ((Below.refl w2.heap.size w2).alloc (Nat.le_refl _) (.cells #[.int .i64 1, .int .i64 7, .string ⟨#[]⟩] 91)).trans (hb3.mono (by simp))
   obtain ⟨a3, n3, c3', rfl⟩ : ∃ x y z, u3 = .slice x y z := by obtain ⟨x, y, e, -⟩ := own_shape hr3; exact ⟨x, _, y, e⟩
   have HG3 : Hid (GS g a len cap q S w3 G K) := HG2.out.below hb3'
   have HT3 : Hid (Tcs (Sq g q) w w3) := HT2.out.of_below hb3'
   have HE3 : Hid (∀ W, Tcs (fun k => k < w.heap.size) w3 W → Nodes W (.slice a3 n3 c3') (e2 ++ [⟨1, 7, ⟨#[]⟩⟩] ++ [⟨7, 13, ⟨#[]⟩⟩])) := nrow_st hr3 (Nat.le_trans HT2.out.size (by simp))
   have x0 := HG3.out.box.c0
   have x1 := HG3.out.box.c1
   have x2 := HG3.out.box.c2
   have x3 := HG3.out.box.c3
   have x4 := HG3.out.box.c4
   clear hr3 hb3 hb3' HN2
   go_wp2_with fail
   refine (whole_any g a len cap (S0 g) G K w3 hl HG3.out.lo0 HG3.out.cur HG3.out.ok0 (by omega)).mono ?_
   rintro e w5 ⟨u5, e5, rfl, hr5, hn5, hd5⟩
   obtain ⟨a5, c5, rfl, -⟩ := own_shape hr5
   have HF : Hid (StP g a len cap q S K L 1 w (.slice (some ⟨w5.heap.size, 0, none⟩) 1 1) (w5.alloc (.cells #[.int .i64 3, .string ⟨#[97]⟩, .slice a3 n3 c3', .slice a5 e5.length c5, .int .i64 0, .int .i64 0] 88))) := one_fin (L := L) 3 0 0 ⟨#[97]⟩ ((HG3.out.dr hd5).more (Nat.le_add_right _ _)) (HT3.out.trans (hd5.tcs.mono s0q)) (fun W hW => HE3.out W (((hd5.tcs.mono s0q).mono HG.out.k0).trans hW)) (nrow_st hr5 HT3.out.size) (okN.more ((HO2.out.app (okN.one (by decide))).app (okN.one (by decide))) (by omega)) (hn5.e3 (by omega)) (by decide) (by omega)
   clear hr5 hn5 hd5 x0 x1 x2 x3 x4
   generalize e5.length = l5 at HF ⊢
   go_wp2_with fail
   go_ret
   exact ⟨_, rfl, HF.out⟩)
 ·rcases hk14 with rfl | rfl
  all_goals (
   go_wp2_with fail
   refine (whole_any g a len cap (S0 g) G K w1 hl HG1.out.lo0 HG1.out.cur HG1.out.ok0 (by omega)).mono ?_
   rintro e w5 ⟨u5, e5, rfl, hr5, hn5, hd5⟩
   obtain ⟨a5, c5, rfl, -⟩ := own_shape hr5
   have HF : Hid (StP g a len cap q S K L 1 w (.slice (some ⟨w5.heap.size, 0, none⟩) 1 1) (w5.alloc (.cells #[.int .i64 7, .string ⟨#[]⟩, .slice a5 e5.length c5, .slice none 0 0, .int .i64 0, .int .i64 0] 88))) := one_fin (L := L) 7 0 0 ⟨#[]⟩ ((HG1.out.dr hd5).more (Nat.le_add_right _ _)) (HT1.out.trans (hd5.tcs.mono s0q)) (nrow_st hr5 HT1.out.size) (fun W _ => nodes_none W) (hn5.e3 (by omega)) (okN.nil.more (Nat.zero_le _)) (by decide) (by omega)
   clear hr5 hn5 hd5 x0 x1 x2 x3 x4
   generalize e5.length = l5 at HF ⊢
   go_wp2_with fail
   go_ret
   exact ⟨_, rfl, HF.out⟩)
 ·go_wp2_with fail
  refine (once_any g a len cap (S0 g) _ _ hl hS0 HG1.out.cur (by omega)).mono ?_
  rintro e w2 ⟨b2, rfl, hd2⟩
  have HG2 : Hid (GS g a len cap q S w2 G K) := HG1.out.dr hd2
  have HT2 : Hid (Tcs (Sq g q) w w2) := HT1.out.trans (hd2.tcs.mono s0q)
  clear hd2 x0 x1 x2 x3 x4 HG1 HT1 hs1
  generalize w2 = w1 at *
  have HG1 : Hid (GS g a len cap q S w1 G K) := HG2.out
  have HT1 : Hid (Tcs (Sq g q) w w1) := HT2.out
  clear HG2 HT2
  have x0 := HG1.out.box.c0
  have x1 := HG1.out.box.c1
  have x2 := HG1.out.box.c2
  have x3 := HG1.out.box.c3
  have x4 := HG1.out.box.c4
  cases b2
  ·go_wp2_with fail
   refine (leaf_any g a len cap (S0 g) G K w1 hl HG1.out.lo0 HG1.out.cur HG1.out.ok0 (by omega)).mono ?_
   rintro e w5 ⟨u5, e5, rfl, hr5, hn5, hd5⟩
   obtain ⟨a5, c5, rfl, -⟩ := own_shape hr5
   have HF : Hid (StP g a len cap q S K L 1 w (.slice (some ⟨w5.heap.size, 0, none⟩) 1 1) (w5.alloc (.cells #[.int .i64 7, .string ⟨#[]⟩, .slice a5 e5.length c5, .slice none 0 0, .int .i64 0, .int .i64 0] 88))) := one_fin (L := L) 7 0 0 ⟨#[]⟩ ((HG1.out.dr hd5).more (Nat.le_add_right _ _)) (HT1.out.trans (hd5.tcs.mono s0q)) (nrow_st hr5 HT1.out.size) (fun W _ => nodes_none W) (hn5.e3 (by omega)) (okN.nil.more (Nat.zero_le _)) (by decide) (by omega)
   clear hr5 hn5 hd5 x0 x1 x2 x3 x4
   generalize e5.length = l5 at HF ⊢
   go_wp2_with fail
   go_ret
   exact ⟨_, rfl, HF.out⟩
  ·go_wp2_with fail
   refine (whole_any g a len cap (S0 g) G K w1 hl HG1.out.lo0 HG1.out.cur HG1.out.ok0 (by omega)).mono ?_
   rintro e w5 ⟨u5, e5, rfl, hr5, hn5, hd5⟩
   obtain ⟨a5, c5, rfl, -⟩ := own_shape hr5
   have HF : Hid (StP g a len cap q S K L 1 w (.slice (some ⟨w5.heap.size, 0, none⟩) 1 1) (w5.alloc (.cells #[.int .i64 6, .string ⟨#[]⟩, .slice a5 e5.length c5, .slice none 0 0, .int .i64 0, .int .i64 0] 88))) := one_fin (L := L) 6 0 0 ⟨#[]⟩ ((HG1.out.dr hd5).more (Nat.le_add_right _ _)) (HT1.out.trans (hd5.tcs.mono s0q)) (nrow_st hr5 HT1.out.size) (fun W _ => nodes_none W) (hn5.e3 (by omega)) (okN.nil.more (Nat.zero_le _)) (by decide) (by omega)
   clear hr5 hn5 hd5 x0 x1 x2 x3 x4
   generalize e5.length = l5 at HF ⊢
   go_wp2_with fail
   go_ret
   exact ⟨_, rfl, HF.out⟩
 ·obtain ⟨ac, cc, hvc⟩ := HG1.out.cs
  by_cases hcs : 0 < G.cs.length
  ·have hc10 : G.cs.length ≤ 10 := HG1.out.ok.c4
   have hpc : G.ps.length = G.cs.length := HG1.out.ok.cp
   obtain ⟨cl, hcl⟩ : ∃ cl, cl = G.cs.length := ⟨_, rfl⟩
   have hcl1 : 0 < cl ∧ cl ≤ 10 := by omega
   have hcl2 : (0 : Int) < (cl : Int) := by omega
   rw [hvc, ← hcl] at x0
   have HVC : Hid (G.vc = .slice ac cl cc) := by rw [hcl]; exact hvc
   have HCL : Hid (cl = G.cs.length ∧ cl = G.ps.length) := ⟨hcl, by omega⟩
   clear hvc hpc hcs hc10 hcl
   go_wp2_with fail
   refine (below_any g a len cap (S0 g) _ _ hl hS0 HG1.out.cur (by omega)).mono ?_
   rintro e w2 ⟨fz, rfl, hf, hd2⟩
   obtain ⟨f, rfl⟩ : ∃ f : Nat, fz = f := ⟨fz.toNat, by omega⟩
   have hfc : f < G.cs.length := by have := HCL.out.1; omega
   have hfp : f < G.ps.length := by have := HCL.out.2; omega
   have HG2 : Hid (GS g a len cap q S w2 G K) := HG1.out.dr hd2
   have HT2 : Hid (Tcs (Sq g q) w w2) := HT1.out.trans (hd2.tcs.mono s0q)
   obtain ⟨pf, hpf⟩ : ∃ pf : Int, pf = G.ps[f] := ⟨_, rfl⟩
   obtain ⟨nm, hnm⟩ : ∃ nm : ByteArray, nm = G.cs[f] := ⟨_, rfl⟩
   have hpfb : 0 ≤ pf ∧ pf ≤ 6 := by rw [hpf]; exact HG2.out.ok.pb _ (List.getElem_mem hfp)
   have HNm : Hid (nm.size ≤ 100000) := by rw [hnm]; exact HG2.out.ok.ns.1 _ (List.getElem_mem hfc)
   obtain ⟨pb, pcap, hvp, -⟩ := ints_at (HG2.out.ok.p w2 (Tcs.refl _ _)) f hfp
   obtain ⟨cb, off, ccap, hvc2, -⟩ := strs_at (HG2.out.ok.c w2 (Tcs.refl _ _)) f hfc
   have HVP : Hid (G.vp = .slice (some ⟨pb, 0, none⟩) cl pcap) := by rw [HCL.out.2]; exact hvp
   have HVC2 : Hid (G.vc = .slice (some ⟨cb, off, none⟩) cl ccap) := by rw [HCL.out.1]; exact hvc2
   have HPC : Hid (∀ W, Tcs S w2 W → W.cell? ⟨pb, f, none⟩ = some (.int .i64 pf) ∧ W.cell? ⟨cb, off + f, none⟩ = some (.string nm)) := fun W hW => by
    obtain ⟨pb', pc', q1, q2⟩ := ints_at (HG2.out.ok.p W hW) f hfp
    obtain ⟨cb', off', cc', q3, q4⟩ := strs_at (HG2.out.ok.c W hW) f hfc
    rw [hvp] at q1
    rw [hvc2] at q3
    simp only [Value.slice.injEq, Option.some.injEq, Addr.mk.injEq] at q1 q3
    obtain ⟨⟨rfl, -, -⟩, -, rfl⟩ := q1
    obtain ⟨⟨rfl, rfl, -⟩, -, rfl⟩ := q3
    rw [hpf, hnm]
    exact ⟨q2, q4⟩
   have HE1 : Hid (∀ W, Lo g a len (S0 g) W.heap.size → Cur g a len cap W → GnOk (S0 g) W G K → Calls Tryz.prog 77 #[.pointer (some ⟨g, 0, none⟩), .agg #[.slice (some ⟨cb, off, none⟩) cl ccap, .slice (some ⟨pb, 0, none⟩) cl pcap, G.vs, G.vl, .int .i64 G.m], .int .i64 1] W fun e w' => ∃ u ns, e = .returned u ∧ NRow W.heap.size w' u ns ∧ okN ns 9 ∧ Dr g a len cap (S0 g) W w') := fun W h1 h2 h3 => by
    have := expr_any g a len cap (S0 g) hl 1 (by omega) 1 G K W rfl h1 h2 h3 (by omega)
    rw [HVP.out, HVC2.out] at this
    exact this
   have hff : (f : Int) < (cl : Int) := by omega
   have HBx : Hid (∀ W, GB q W G → W.cell? ⟨q, 0, none⟩ = some (.slice (some ⟨cb, off, none⟩) cl ccap) ∧ W.cell? ⟨q, 1, none⟩ = some (.slice (some ⟨pb, 0, none⟩) cl pcap) ∧ W.cell? ⟨q, 2, none⟩ = some G.vs ∧ W.cell? ⟨q, 3, none⟩ = some G.vl ∧ W.cell? ⟨q, 4, none⟩ = some (.int .i64 G.m)) := fun W hB => by
    have h0 := hB.c0
    have h1 := hB.c1
    rw [HVC2.out] at h0
    rw [HVP.out] at h1
    exact ⟨h0, h1, hB.c2, hB.c3, hB.c4⟩
   have hs2 : w.heap.size ≤ w2.heap.size := HT2.out.size
   have HS2 : Hid (∀ k, S k → k < w2.heap.size) := HG2.out.lo.s
   have HL2 : Hid (Lo g a len S w2.heap.size) := HG2.out.lo
   have HG3 : Hid (GS g a len cap q (Sv S (.slice (some ⟨w2.heap.size, 0, none⟩) 0 0)) (w2.alloc (.cells #[] 91)) G K) := HG2.out.add (HG2.out.alloc _) ((Tcs.refl _ _).alloc _) (fun k hk => by simp [Value.ownBlock] at hk; subst hk; simp)
   clear hd2 hpf hnm hvp hvc2 x0 x1 x2 x3 x4 hfc hfp
   go_wp2_with fail
   go_loopw [12, 13, 14] (fun ov i ar wr => ∃ j : Nat, (j : Int) ≤ pf ∧ i = .int .i64 j ∧ ∃ ns : List Nd, NRow w2.heap.size wr ov ns ∧ okN ns (j * 9) ∧ GS g a len cap q (Sv S ov) wr G K ∧ Tcs (S0 g) w2 wr) (fun _ i _ _ => pf.toNat - (RowKit.intOf i).toNat)
   case atStart => exact ⟨0, by omega, rfl, [], nrow_nil w2 w2.heap.size (Nat.le_refl _), by rw [Nat.zero_mul]; exact okN.nil, HG3.out, (Tcs.refl _ _).alloc _⟩
   case round =>
    obtain ⟨j, hj, rfl, ns, hr, hn, hgr, htr⟩ := hrel
    have HR : Hid (NRow w2.heap.size wr u12 ns) := hr
    have HN : Hid (okN ns (j * 9)) := hn
    have HGr : Hid (GS g a len cap q (Sv S u12) wr G K) := hgr
    have HTr : Hid (Tcs (S0 g) w2 wr) := htr
    obtain ⟨x0, x1, x2, x3, x4⟩ := HBx.out wr hgr.box
    obtain ⟨y0, y1⟩ := HPC.out wr (htr.mono HG2.out.s0)
    have hnl : ns.length ≤ 54 := Nat.le_trans hn.1 (by omega)
    have hsr : w2.heap.size ≤ wr.heap.size := htr.size
    clear hr hn hgr htr
    by_cases hlt : (j : Int) < pf
    ·go_wp2_with fail
     refine (HE1.out wr HGr.out.lo0 HGr.out.cur HGr.out.ok0).mono ?_
     rintro e w4 ⟨u4, e4, rfl, hr4, hn4, hd4⟩
     have hR4 := own_tcs HR.out hd4.tcs (fun k hk => HS2.out k (HG2.out.s0 k hk))
     have hl4 : e4.length ≤ 9 := hn4.1
     obtain ⟨v5, w5, r5, r5b, r5c, r5d⟩ := run_appN (w := w4) w2.heap.size 85 _ ns hR4 u4 e4 (NRow.nodes hr4) (by omega) (Nat.le_trans hsr hd4.tcs.size)
     have ht5 : Tcs (fun k => u12.ownBlock = some k) w4 w5 := Tcs.of_grown r5c (fun k hk => hk)
     have HR5 : Hid (NRow w2.heap.size w5 v5 (ns ++ e4) ∧ okN (ns ++ e4) (j * 9 + 9) ∧ GS g a len cap q (Sv S v5) w5 G K ∧ Tcs (S0 g) w2 w5) := ⟨r5b, HN.out.app hn4, (HGr.out.dr hd4).app HL2.out HG2.out.sq (fun k hk => (World.ownsRow.lt HR.out k hk).1) ht5 r5d (fun k hk => (World.ownsRow.lt r5b k hk).2), (HTr.out.trans hd4.tcs).next ht5 (fun k hk => .inr (World.ownsRow.lt HR.out k hk).1)⟩
     have Hr5 : Hid _ := r5
     clear hr4 hn4 hd4 hR4 r5 r5b r5c r5d x0 x1 x2 x3 x4 y0 y1 ht5
     go_wp2_with (at_builtin; refine wpList_appG rfl _ _ _ rfl _ _ _ _ rfl rfl Hr5.out ?_)
     go_roundw
     case rel => exact ⟨j + 1, by omega, by go_num, ns ++ e4, HR5.out.1, by rw [Nat.succ_mul]; exact HR5.out.2.1, HR5.out.2.2.1, HR5.out.2.2.2⟩
     case measure => simp [RowKit.intOf]; omega
    ·have hj6 : j ≤ 6 := by omega
     go_upto_region 33 with fail
     go_region_law
      (refine step_appN rfl (.tmp 137) (.tmp 153) rfl w2.heap.size _ ns rfl (NRow.below HR.out (((Below.refl _ _).drew).alloc (Nat.le_refl _) _)) _ _ rfl (nrow_lit wr.drew 0 (Nat.zero_le _) _ _ _).nodes (by simp; omega) (by simp; omega) ?_
       intro u6 w6 h6 g6 f6
       obtain ⟨a6, n6, c6, rfl⟩ : ∃ x y z, u6 = .slice x y z := by obtain ⟨x, y, e, -⟩ := own_shape h6; exact ⟨x, _, y, e⟩
       have ht6 : Tcs (fun k => u12.ownBlock = some k) (wr.drew.alloc (.cells #[.int .i64 4, .int .i64 pf, .string nm] 91)) w6 := Tcs.of_grown g6 (fun k hk => hk)
       have hgb : Below wr.heap.size wr (wr.drew.alloc (.cells #[.int .i64 4, .int .i64 pf, .string nm] 91)) := ((Below.refl _ _).drew).alloc (Nat.le_refl _) _
       have hg6 : GS g a len cap q (Sv S (.slice a6 n6 c6)) w6 G K := (HGr.out.below hgb).app HL2.out HG2.out.sq (fun k hk => (World.ownsRow.lt HR.out k hk).1) ht6 f6 (fun k hk => (World.ownsRow.lt h6 k hk).2)
       have htw6 : Tcs (Sq g q) w w6 := (HT2.out.trans ((HTr.out.of_below hgb).next ht6 (fun k hk => .inr (World.ownsRow.lt HR.out k hk).1) |>.mono s0q))
       have HF : Hid (StP g a len cap q S K L 1 w (.slice (some ⟨w6.heap.size, 0, none⟩) 1 1) (w6.alloc (.cells #[.int .i64 8, .string ⟨#[]⟩, .slice a6 n6 c6, .slice none 0 0, .int .i64 0, .int .i64 0] 88))) := one_fin (L := L) 8 0 0 ⟨#[]⟩ ((hg6.drop HL2.out.sg HG2.out.sq).more (Nat.le_add_right _ _)) htw6 (nrow_st h6 hs2) (fun W _ => nodes_none W) (okN.more (HN.out.app (okN.one HNm.out)) (by omega)) (okN.nil.more (Nat.zero_le _)) (by decide) (by omega)
       clear h6 g6 f6 ht6 hgb hg6 htw6)
     all_goals (
      go_wp2_with fail
      go_ret
      exact ⟨_, rfl, HF.out⟩)
  ·obtain ⟨cl, hcl⟩ : ∃ cl, cl = G.cs.length := ⟨_, rfl⟩
   have hcl0 : (cl : Int) ≤ 0 := by omega
   rw [hvc, ← hcl] at x0
   have HVC : Hid (G.vc = .slice ac cl cc) := by rw [hcl]; exact hvc
   have HLf : Hid (∀ W, Lo g a len (S0 g) W.heap.size → Cur g a len cap W → GnOk (S0 g) W G K → Calls Tryz.prog 78 #[.pointer (some ⟨g, 0, none⟩), .agg #[.slice ac cl cc, G.vp, G.vs, G.vl, .int .i64 G.m]] W fun e w' => ∃ u ns, e = .returned u ∧ NRow W.heap.size w' u ns ∧ okN ns 1 ∧ Dr g a len cap (S0 g) W w') := fun W h1 h2 h3 => by
    have := leaf_any g a len cap (S0 g) G K W hl h1 h2 h3 (by omega)
    rw [HVC.out] at this
    exact this
   clear hvc hcs hcl
   go_wp2_with fail
   refine (HLf.out w1 HG1.out.lo0 HG1.out.cur HG1.out.ok0).mono ?_
   rintro e w5 ⟨u5, e5, rfl, hr5, hn5, hd5⟩
   obtain ⟨a5, c5, rfl, -⟩ := own_shape hr5
   have HF : Hid (StP g a len cap q S K L 1 w (.slice (some ⟨w5.heap.size, 0, none⟩) 1 1) (w5.alloc (.cells #[.int .i64 7, .string ⟨#[]⟩, .slice a5 e5.length c5, .slice none 0 0, .int .i64 0, .int .i64 0] 88))) := one_fin (L := L) 7 0 0 ⟨#[]⟩ ((HG1.out.dr hd5).more (Nat.le_add_right _ _)) (HT1.out.trans (hd5.tcs.mono s0q)) (nrow_st hr5 HT1.out.size) (fun W _ => nodes_none W) (hn5.e3 (by omega)) (okN.nil.more (Nat.zero_le _)) (by decide) (by omega)
   clear hr5 hn5 hd5 x0 x1 x2 x3 x4
   generalize e5.length = l5 at HF ⊢
   go_wp2_with fail
   go_ret
   exact ⟨_, rfl, HF.out⟩
 ·by_cases hz0 : z = 0
  ·subst hz0
   go_wp2_with fail
   refine (leaf_any g a len cap (S0 g) G K w1 hl HG1.out.lo0 HG1.out.cur HG1.out.ok0 (by omega)).mono ?_
   rintro e w5 ⟨u5, e5, rfl, hr5, hn5, hd5⟩
   obtain ⟨a5, c5, rfl, -⟩ := own_shape hr5
   have HF : Hid (StP g a len cap q S K L 1 w (.slice (some ⟨w5.heap.size, 0, none⟩) 1 1) (w5.alloc (.cells #[.int .i64 7, .string ⟨#[]⟩, .slice a5 e5.length c5, .slice none 0 0, .int .i64 0, .int .i64 0] 88))) := one_fin (L := L) 7 0 0 ⟨#[]⟩ ((HG1.out.dr hd5).more (Nat.le_add_right _ _)) (HT1.out.trans (hd5.tcs.mono s0q)) (nrow_st hr5 HT1.out.size) (fun W _ => nodes_none W) (hn5.e3 (by omega)) (okN.nil.more (Nat.zero_le _)) (by decide) (by omega)
   clear hr5 hn5 hd5 x0 x1 x2 x3 x4
   generalize e5.length = l5 at HF ⊢
   go_wp2_with fail
   go_ret
   exact ⟨_, rfl, HF.out⟩
  ·have hz1 : 0 < z := by omega
   obtain ⟨d', hd'⟩ : ∃ d', d = d' + 1 := ⟨d - 1, by have := HZ.out; omega⟩
   have HLp : Hid (∀ W, Tcs (Sq g q) w W → GS g a len cap q S W G K → Calls Tryz.prog 107 #[.pointer (some ⟨g, 0, none⟩), .pointer (some ⟨q, 0, none⟩), .int .i64 z] W fun e w' => ∃ v, e = .returned v ∧ StP g a len cap q S K L 1 W v w') := fun W _ hW => by
    have hk' : K + dpt (d' + 1) ≤ 50000 := by rw [← hd', ← HLd.out]; exact hK
    have := loop_any g a len cap q d' hl (by omega) (HX.out d' hd') z (by rw [← hd']; exact HZ.out) S G K W hW hk'
    rw [← hd', ← HLd.out] at this
    exact this
   clear hd' x0 x1 x2 x3 x4
   go_wp2_with fail
   refine (HLp.out w1 HT1.out HG1.out).mono ?_
   rintro e w2 ⟨v, rfl, hst⟩
   have HF : Hid (StP g a len cap q S K L 1 w v w2) := hst.from HT1.out
   clear hst
   go_wp2_with fail
   go_ret
   exact ⟨_, rfl, HF.out⟩
 ·by_cases hz0 : z = 0
  ·subst hz0
   rcases hk14 with rfl | rfl
   all_goals (
    go_wp2_with fail
    refine (leaf_any g a len cap (S0 g) G K w1 hl HG1.out.lo0 HG1.out.cur HG1.out.ok0 (by omega)).mono ?_
    rintro e w5 ⟨u5, e5, rfl, hr5, hn5, hd5⟩
    obtain ⟨a5, c5, rfl, -⟩ := own_shape hr5
    have HF : Hid (StP g a len cap q S K L 1 w (.slice (some ⟨w5.heap.size, 0, none⟩) 1 1) (w5.alloc (.cells #[.int .i64 7, .string ⟨#[]⟩, .slice a5 e5.length c5, .slice none 0 0, .int .i64 0, .int .i64 0] 88))) := one_fin (L := L) 7 0 0 ⟨#[]⟩ ((HG1.out.dr hd5).more (Nat.le_add_right _ _)) (HT1.out.trans (hd5.tcs.mono s0q)) (nrow_st hr5 HT1.out.size) (fun W _ => nodes_none W) (hn5.e3 (by omega)) (okN.nil.more (Nat.zero_le _)) (by decide) (by omega)
    clear hr5 hn5 hd5 x0 x1 x2 x3 x4
    generalize e5.length = l5 at HF ⊢
    go_wp2_with fail
    go_ret
    exact ⟨_, rfl, HF.out⟩)
  ·have hz1 : 0 < z := by omega
   obtain ⟨d', hd'⟩ : ∃ d', d = d' + 1 := ⟨d - 1, by have := HZ.out; omega⟩
   have HXd : Hid (StC g a len cap q d') := HX.out d' hd'
   obtain ⟨D, hD⟩ : ∃ D, D = dpt d' := ⟨_, rfl⟩
   have hLD : L = 4 * D + 3 := by rw [HLd.out, hd', hD]; rfl
   have HD : Hid (D = dpt d') := hD
   have HLD : Hid (L = 4 * D + 3) := hLD
   have hDL : 4 * D + 3 ≤ L ∧ L ≤ 4 * D + 3 := by omega
   have HZd : Hid (z - 1 = (d' : Int)) := by show _ = _; have := HZ.out; omega
   have hd3 : d' ≤ 3 := by omega
   clear hd' hD hLD
   rcases hk14 with rfl | rfl
   all_goals (
    go_wp2_with fail
    refine (whole_any g a len cap (S0 g) G K w1 hl HG1.out.lo0 HG1.out.cur HG1.out.ok0 (by omega)).mono ?_
    rintro e w2 ⟨u2, e2, rfl, hr2, hn2, hd2⟩
    obtain ⟨a2, n2, c2, rfl⟩ : ∃ x y z, u2 = .slice x y z := by obtain ⟨x, y, e, -⟩ := own_shape hr2; exact ⟨x, _, y, e⟩
    have HG2 : Hid (GS g a len cap q S w2 G K) := HG1.out.dr hd2
    have HT2 : Hid (Tcs (Sq g q) w w2) := HT1.out.trans (hd2.tcs.mono s0q)
    have HN2 : Hid (∀ W, Tcs (fun k => k < w.heap.size) w2 W → Nodes W (.slice a2 n2 c2) e2) := nrow_st hr2 HT1.out.size
    have HO2 : Hid (okN e2 3000) := hn2.e3 (by omega)
    clear hr2 hn2 hd2 x0 x1 x2 x3 x4
    go_wp2_with fail
    refine (below_any g a len cap (S0 g) _ _ hl hS0 HG2.out.cur (by omega)).mono ?_
    rintro e w3 ⟨x, rfl, hx, hd3'⟩
    have HG3 : Hid (GS g a len cap q S w3 G K) := HG2.out.dr hd3'
    have H23 : Hid (Tcs (Sq g q) w2 w3) := hd3'.tcs.mono s0q
    obtain ⟨n, hnn⟩ : ∃ n, n = x.toNat := ⟨_, rfl⟩
    have hn2' : n ≤ 2 := by omega
    have HNx : Hid (x = (n : Int)) := by show _ = _; omega
    obtain ⟨nD, hnD⟩ : ∃ nD, nD = n * dpt d' := ⟨_, rfl⟩
    have HnD : Hid (nD = n * dpt d') := hnD
    have hnDb : nD ≤ 2 * D := by rw [hnD, ← HD.out]; exact Nat.mul_le_mul_right _ hn2'
    clear hd3' hnn hnD
    go_wp2_with fail
    refine (block_any g a len cap q d' (by omega) HXd.out n (by omega) _ _ HNx.out HZd.out S G K w3 HG3.out (by rw [← HnD.out]; omega)).mono ?_
    rintro e w4 ⟨va, rfl, Ra, G4, hr4, -, hg4, ht4⟩
    rw [← HnD.out] at hr4 hg4
    obtain ⟨ba, bn, bc, rfl⟩ : ∃ x y z, va = .slice x y z := by obtain ⟨x, y, e⟩ := hr4.shape; exact ⟨x, _, y, e⟩
    have HR4 : Hid (SR w3.heap.size w4 (.slice ba bn bc) Ra nD) := hr4
    have HG4 : Hid (GS g a len cap q (Sv S (.slice ba bn bc)) w4 G4 (K + nD)) := hg4
    have H24 : Hid (Tcs (Sq g q) w2 w4) := H23.out.trans ht4
    clear hr4 hg4 ht4
    go_wp2_with fail
    refine (below_any g a len cap (S0 g) _ _ hl hS0 HG4.out.cur (by omega)).mono ?_
    rintro e w5 ⟨y, rfl, hy, hd5⟩
    have HG5 : Hid (GS g a len cap q (Sv S (.slice ba bn bc)) w5 G4 (K + nD)) := HG4.out.dr hd5
    have H45 : Hid (Tcs (Sq g q) w4 w5) := hd5.tcs.mono s0q
    clear hd5
    go_wp2_with fail
    refine (below_any g a len cap (S0 g) _ _ hl hS0 HG5.out.cur (by omega)).mono ?_
    rintro e w6 ⟨y2, rfl, hy2, hd6⟩
    have HG6 : Hid (GS g a len cap q (Sv S (.slice ba bn bc)) w6 G4 (K + nD)) := HG5.out.dr hd6
    have H46 : Hid (Tcs (Sq g q) w4 w6) := H45.out.trans (hd6.tcs.mono s0q)
    obtain ⟨m, hmm⟩ : ∃ m : Nat, m = (y * y2).toNat := ⟨_, rfl⟩
    have hyy : 0 ≤ y * y2 ∧ y * y2 ≤ 2 := by
     have : y2 = 0 ∨ y2 = 1 := by omega
     rcases this with rfl | rfl <;> omega
    have hm2 : m ≤ 2 := by omega
    have HMx : Hid (y * y2 = (m : Int)) := by show _ = _; omega
    obtain ⟨mD, hmD⟩ : ∃ mD, mD = m * dpt d' := ⟨_, rfl⟩
    have HmD : Hid (mD = m * dpt d') := hmD
    have hmDb : mD ≤ 2 * D := by rw [hmD, ← HD.out]; exact Nat.mul_le_mul_right _ hm2
    have hw64 : wrap64 (y * y2) = y * y2 := by unfold wrap64; omega
    have HW64 : Hid (IntKind.i64.wrap (y * y2) = y * y2) := by show _ = _; rw [IntKind.wrap_i64]; omega
    generalize hyz : y * y2 = yy at *
    clear hd6 hmm hmD
    go_wp2_with fail
    try simp only [hyz]
    refine (block_any g a len cap q d' (by omega) HXd.out m (by omega) _ _ HMx.out HZd.out (Sv S (.slice ba bn bc)) G4 (K + nD) w6 HG6.out (by rw [← HmD.out]; omega)).mono ?_
    rintro e w7 ⟨vb, rfl, Rb, G7, hr7, -, hg7, ht7⟩
    rw [← HmD.out] at hr7 hg7
    obtain ⟨da, dn, dc, rfl⟩ : ∃ x y z, vb = .slice x y z := by obtain ⟨x, y, e⟩ := hr7.shape; exact ⟨x, _, y, e⟩
    have h47 := H46.out.trans ht7
    have h27 := H24.out.trans h47
    have hT7 := HT2.out.trans h27
    have hs7 : w.heap.size ≤ w7.heap.size := hT7.size
    have hk3 : ∀ k, Sq g q k → k < w3.heap.size := HG3.out.k0
    have hra := HR4.out.tcs h47 hk3
    have hso := sr_lit (w := w7) (B := w.heap.size) (kd := 4) (th := bn) (el := dn) (nm := ⟨#[]⟩) (vf := .slice none 0 0) (f := []) hs7 (fun W hW => HN2.out W ((h27.mono HG.out.k0).trans hW)) (fun W _ => nodes_none W) HO2.out (okN.nil.more (Nat.zero_le _)) (by decide)
    obtain ⟨W8, hW8⟩ : ∃ W8, W8 = w7.alloc (.cells #[.int .i64 4, .string ⟨#[]⟩, .slice a2 n2 c2, .slice none 0 0, .int .i64 bn, .int .i64 dn] 88) := ⟨_, rfl⟩
    have hb8 : Below w7.heap.size w7 W8 := by rw [hW8]; exact (Below.refl _ _).alloc (Nat.le_refl _) _
    rw [← hW8] at hso
    have hown : ∀ k, (Value.slice (some ⟨w7.heap.size, 0, none⟩) 1 1).ownBlock = some k → w7.heap.size ≤ k := fun k hk => by simp [Value.ownBlock] at hk; omega
    have hwk3 : w.heap.size ≤ w3.heap.size := Nat.le_trans HT2.out.size H23.out.size
    have hwk6 : w.heap.size ≤ w6.heap.size := Nat.le_trans HT2.out.size (H24.out.trans H46.out).size
    obtain ⟨v9, w9, r9, h9, t9, f9⟩ := sr_app 59 hso (hra.below hb8) (Nat.le_trans hs7 hb8.size) (by omega) (sr_before hra hb8.tcs hwk3 hown)
    have h79 : Tcs (fun _ => False) w7 w9 := (hb8.tcs (S := fun _ => False)).next t9 (fun k hk => .inr (hown k hk))
    have hv9 : ∀ k, v9.ownBlock = some k → w7.heap.size ≤ k := fun k hk => by
     rcases f9 k hk with h | h
     ·exact hown k h
     ·have := hb8.size; omega
    obtain ⟨v10, w10, r10, h10, t10, f10⟩ := sr_app 59 h9 (hr7.tcs h79 (fun k hk => hk.elim)) (Nat.le_trans hs7 h79.size) (by omega) (sr_before hr7 (h79.mono fun k hk => hk.elim) hwk6 hv9)
    have hgS := hg7.sub (S' := S) (fun k hk => .inl (.inl hk)) HG.out.lo.sg HG.out.sq
    have hg8 := GS.add (v := .slice (some ⟨w7.heap.size, 0, none⟩) 1 1) hgS (hgS.below hb8) hb8.tcs (fun k hk => ⟨hown k hk, (hso.rng k hk).2⟩)
    have hg9 := hg8.app HG.out.lo HG.out.sq (fun k hk => (hso.rng k hk).1) t9 f9 (fun k hk => (h9.rng k hk).2)
    have hg10 := hg9.app HG.out.lo HG.out.sq (fun k hk => (h9.rng k hk).1) t10 f10 (fun k hk => (h10.rng k hk).2)
    have HF : Hid (StP g a len cap q S K L 1 w v10 w10) := ⟨_, G7, h10.more (by omega), by simp, hg10.more (by omega), (hT7.trans (h79.mono fun k hk => hk.elim)).next t10 (fun k hk => .inr (h9.rng k hk).1)⟩
    rw [hW8] at r9
    have Hr9 : Hid _ := r9
    have Hr10 : Hid _ := r10
    clear hr7 hg7 ht7 h47 h27 hT7 hs7 hk3 hra hso hb8 hown r9 h9 t9 f9 h79 hv9 r10 h10 t10 f10 hgS hg8 hg9 hg10 hW8
    go_wp2_with (at_builtin; first
     | refine wpList_appG rfl (.tmp 198) (.tmp 199) _ rfl _ _ _ _ rfl rfl Hr9.out ?_
     | refine wpList_appG rfl (.tmp 200) (.tmp 201) _ rfl _ _ _ _ rfl rfl Hr10.out ?_)
    go_ret
    exact ⟨_, rfl, HF.out⟩)
 ·go_wp2_with fail
  refine (leaf_any g a len cap (S0 g) G K w1 hl HG1.out.lo0 HG1.out.cur HG1.out.ok0 (by omega)).mono ?_
  rintro e w5 ⟨u5, e5, rfl, hr5, hn5, hd5⟩
  obtain ⟨a5, c5, rfl, -⟩ := own_shape hr5
  have HF : Hid (StP g a len cap q S K L 1 w (.slice (some ⟨w5.heap.size, 0, none⟩) 1 1) (w5.alloc (.cells #[.int .i64 7, .string ⟨#[]⟩, .slice a5 e5.length c5, .slice none 0 0, .int .i64 0, .int .i64 0] 88))) := one_fin (L := L) 7 0 0 ⟨#[]⟩ ((HG1.out.dr hd5).more (Nat.le_add_right _ _)) (HT1.out.trans (hd5.tcs.mono s0q)) (nrow_st hr5 HT1.out.size) (fun W _ => nodes_none W) (hn5.e3 (by omega)) (okN.nil.more (Nat.zero_le _)) (by decide) (by omega)
  clear hr5 hn5 hd5 x0 x1 x2 x3 x4
  generalize e5.length = l5 at HF ⊢
  go_wp2_with fail
  go_ret
  exact ⟨_, rfl, HF.out⟩
theorem stmt_any (g : Nat) (a : Option Addr) (len cap q : Nat) (hl : len ≤ 1048576) (d : Nat) : d ≤ 4 → StC g a len cap q d := by
 induction d with
 | zero => intro hd; exact stmt_step g a len cap q hl 0 hd (fun d' h => by omega)
 | succ d ih => intro hd; exact stmt_step g a len cap q hl (d + 1) hd (fun d' h => by
  have e : d' = d := by omega
  rw [e]
  exact ih (by omega))
end
section
open Go.RowKit
theorem stmts_of {W : World} {B : Nat} {v : Value} {R : List SV} (h0 : W.ownsRow B 88 6 v R.length (flatS R)) (hp : PtS R W) : Stmts W v (R.map (·.s)) := by
 rcases h0.2 with ⟨rfl, hz⟩ | ⟨g, cap, cur, rfl, h3, h4, h5⟩
 ·exact ⟨none, 0, by rw [List.length_map, hz], by rw [List.length_map, hz]; exact Nat.le_refl _, by omega, fun h => by rw [List.length_map] at h; omega⟩
 ·have hc : R.length ≤ cap ∧ cap ≤ 9223372036854775807 := by
   obtain ⟨q1, q2, -⟩ := h5
   unfold maxLen at q2
   exact ⟨q1, q2⟩
  refine ⟨some ⟨g, 0, none⟩, cap, by rw [List.length_map], by rw [List.length_map]; exact hc.1, hc.2, fun hp' => ⟨g, 0, rfl, fun j hj => ?_⟩⟩
  rw [List.length_map] at hj
  have key : ∀ i, i < 6 → W.cell? ⟨g, 0 + j * 6 + i, none⟩ = (cellsS R[j])[i]? := fun i hi => by
   have hl : (flatS R).length = R.length * 6 := flatS_len R
   rw [Nat.zero_add, World.ownsRow.cellAt h0 (j * 6 + i) (by omega), flatS_get R j i hj hi]
  have he := hp R[j] (List.getElem_mem hj)
  refine ⟨R[j].ve, R[j].vf, ?_, ?_, ?_⟩
  ·simp only [List.getElem_map]
   exact ⟨key 0 (by omega), key 1 (by omega), key 2 (by omega), key 3 (by omega), key 4 (by omega), key 5 (by omega)⟩
  ·simp only [List.getElem_map]; exact he.1
  ·simp only [List.getElem_map]; exact he.2
theorem SR.stmts {B : Nat} {w : World} {v : Value} {R : List SV} {L : Nat} (h : SR B w v R L) : ∀ W, Tcs (fun k => k < B) w W → Stmts W v (R.map (·.s)) := fun W hW =>
 stmts_of (own_tcs h.row.row hW (fun k hk => hk)) (h.row.st W (hW.mono fun k hk => .inl hk))
def RdS (W : World) (v : Value) (R : List SV) : Prop := (∃ a c, v = .slice a R.length c ∧ R.length ≤ c ∧ c ≤ 9223372036854775807 ∧ (0 < R.length → ∃ b off, a = some ⟨b, off, none⟩ ∧ ∀ j u, (flatS R)[j]? = some u → W.cell? ⟨b, off + j, none⟩ = some u)) ∧ PtS R W
theorem RdS.stmts {W : World} {v : Value} {R : List SV} (h : RdS W v R) : Stmts W v (R.map (·.s)) := by
 obtain ⟨⟨a, c, rfl, h1, h2, h3⟩, hp⟩ := h
 refine ⟨a, c, by rw [List.length_map], by rw [List.length_map]; exact h1, h2, fun hp' => ?_⟩
 rw [List.length_map] at hp'
 obtain ⟨b, off, rfl, hc⟩ := h3 hp'
 refine ⟨b, off, rfl, fun j hj => ?_⟩
 rw [List.length_map] at hj
 have key : ∀ i (hi : i < 6), W.cell? ⟨b, off + j * 6 + i, none⟩ = (cellsS R[j])[i]? := fun i hi => by
  have e := flatS_get R j i hj hi
  have hl : i < (cellsS R[j]).length := hi
  rw [List.getElem?_eq_getElem hl] at e ⊢
  rw [Nat.add_assoc]
  exact hc _ _ e
 have he := hp R[j] (List.getElem_mem hj)
 refine ⟨R[j].ve, R[j].vf, ?_, ?_, ?_⟩
 ·simp only [List.getElem_map]
  exact ⟨key 0 (by omega), key 1 (by omega), key 2 (by omega), key 3 (by omega), key 4 (by omega), key 5 (by omega)⟩
 ·simp only [List.getElem_map]; exact he.1
 ·simp only [List.getElem_map]; exact he.2
theorem rd_of {W : World} {B : Nat} {v : Value} {R : List SV} (h0 : W.ownsRow B 88 6 v R.length (flatS R)) (hp : PtS R W) : RdS W v R := by
 refine ⟨?_, hp⟩
 have hh := h0
 rcases h0.2 with ⟨rfl, hz⟩ | ⟨g, cap, cur, rfl, h3, h4, h5⟩
 ·exact ⟨none, 0, by rw [hz], by omega, by omega, fun h => by omega⟩
 ·obtain ⟨q1, q2, -⟩ := h5
  unfold maxLen at q2
  refine ⟨_, cap, rfl, q1, q2, fun _ => ⟨g, 0, rfl, fun j u hu => ?_⟩⟩
  have := World.ownsRow.cells hh (g := g) rfl j u hu
  rwa [addrO] at this
theorem SR.rd {B : Nat} {w : World} {v : Value} {R : List SV} {L : Nat} (h : SR B w v R L) : ∀ W, Tcs (fun k => k < B) w W → RdS W v R := fun W hW =>
 rd_of (own_tcs h.row.row hW (fun k hk => hk)) (h.row.st W (hW.mono fun k hk => .inl hk))
theorem RdS.one {W : World} {v : Value} {R : List SV} (h : RdS W v R) : v.oneCell' = true := by
 obtain ⟨⟨a, c, rfl, -⟩, -⟩ := h
 rfl
def PtF (Q : List FV) (W : World) : Prop := ∀ x ∈ Q, Strs W x.vp x.f.params ∧ RdS W x.vb x.R ∧ x.R.map (·.s) = x.f.body
structure okFn (f : Fu) : Prop where
 nm : f.name.size ≤ 100000
 pl : f.params.length ≤ 20
 pn : ∀ p ∈ f.params, p.size ≤ 100000
 bl : 1 ≤ f.body.length
 bu : f.body.length ≤ 10000
 st : ∀ s ∈ f.body, okN s.e 3000 ∧ okN s.f 3000 ∧ s.name.size ≤ 100000
theorem okS.body {R : List SV} (h : okS R) : ∀ s ∈ R.map (·.s), okN s.e 3000 ∧ okN s.f 3000 ∧ s.name.size ≤ 100000 := fun s hs => by
 obtain ⟨x, hx, rfl⟩ := List.mem_map.1 hs
 exact h x hx
structure FR (S : Nat → Prop) (B : Nat) (w : World) (v : Value) (Q : List FV) : Prop where
 row : DRow 61 3 S B w v Q.length (flatF Q) (PtF Q)
 ok : ∀ x ∈ Q, okFn x.f
theorem FR.tcs {S : Nat → Prop} {B : Nat} {w w' : World} {v : Value} {Q : List FV} (h : FR S B w v Q) (ht : Tcs S w w') (hS : ∀ k, S k → k < B) : FR S B w' v Q := ⟨h.row.tcs ht hS, h.ok⟩
theorem FR.below {S : Nat → Prop} {B : Nat} {w w' : World} {v : Value} {Q : List FV} (h : FR S B w v Q) (hb : Below w.heap.size w w') : FR S B w' v Q := ⟨h.row.below hb, h.ok⟩
theorem FR.low {S : Nat → Prop} {B B' : Nat} {w : World} {v : Value} {Q : List FV} (h : FR S B w v Q) (hb : B' ≤ B) : FR S B' w v Q := ⟨h.row.low hb, h.ok⟩
theorem FR.less {S S' : Nat → Prop} {B : Nat} {w : World} {v : Value} {Q : List FV} (h : FR S B w v Q) (hs : ∀ k, S' k → S k) : FR S' B w v Q := ⟨h.row.less hs, h.ok⟩
theorem FR.rng {S : Nat → Prop} {B : Nat} {w : World} {v : Value} {Q : List FV} (h : FR S B w v Q) : ∀ k, v.ownBlock = some k → B ≤ k ∧ k < w.heap.size := fun k hk => World.ownsRow.lt h.row.row k hk
theorem FR.shape {S : Nat → Prop} {B : Nat} {w : World} {v : Value} {Q : List FV} (h : FR S B w v Q) : ∃ a c, v = .slice a Q.length c := by
 obtain ⟨a, c, e, -⟩ := own_shape h.row.row
 exact ⟨a, c, e⟩
theorem fr_none {S : Nat → Prop} {B : Nat} {w : World} : FR S B w (.slice none 0 0) [] := ⟨DRow.nil (fun W x hx => by cases hx), fun x hx => by cases hx⟩
theorem funcs_of {W : World} {B : Nat} {v : Value} {Q : List FV} (h0 : W.ownsRow B 61 3 v Q.length (flatF Q)) (hp : PtF Q W) : Funcs W v (Q.map (fun q : FV => q.f)) := by
 rcases h0.2 with ⟨rfl, hz⟩ | ⟨g, cap, cur, rfl, h3, h4, h5⟩
 ·exact ⟨none, 0, by rw [List.length_map, hz], by rw [List.length_map, hz]; exact Nat.le_refl _, by omega, fun h => by rw [List.length_map] at h; omega⟩
 ·have hc : Q.length ≤ cap ∧ cap ≤ 9223372036854775807 := by
   obtain ⟨q1, q2, -⟩ := h5
   unfold maxLen at q2
   exact ⟨q1, q2⟩
  refine ⟨some ⟨g, 0, none⟩, cap, by rw [List.length_map], by rw [List.length_map]; exact hc.1, hc.2, fun hp' => ⟨g, 0, rfl, fun j hj => ?_⟩⟩
  rw [List.length_map] at hj
  have key : ∀ i, i < 3 → W.cell? ⟨g, 0 + j * 3 + i, none⟩ = (cellsF Q[j])[i]? := fun i hi => by
   have hl : (flatF Q).length = Q.length * 3 := flatF_len Q
   rw [Nat.zero_add, World.ownsRow.cellAt h0 (j * 3 + i) (by omega), flatF_get Q j i hj hi]
  obtain ⟨e1, e2, e3⟩ := hp Q[j] (List.getElem_mem hj)
  have e2 := e2.stmts
  rw [e3] at e2
  refine ⟨Q[j].vp, Q[j].vb, ?_, ?_, ?_⟩
  ·simp only [List.getElem_map]
   exact ⟨key 0 (by omega), key 1 (by omega), key 2 (by omega)⟩
  ·simp only [List.getElem_map]; exact e1
  ·simp only [List.getElem_map]; exact e2
theorem FR.funcs {S : Nat → Prop} {B : Nat} {w : World} {v : Value} {Q : List FV} (h : FR S B w v Q) (hS : ∀ k, S k → k < B) : ∀ W, Tcs S w W → Funcs W v (Q.map (fun q : FV => q.f)) := fun W hW =>
 funcs_of (own_tcs h.row.row hW hS) (h.row.st W (hW.mono fun k hk => .inl hk))
theorem fr_app {S : Nat → Prop} {w : World} {B m c : Nat} {v : Value} {Q Q2 : List FV} (ty : TypeId) (h : FR S B w v Q) (a : Option Addr) (hm2 : m = Q2.length) (hn : a = none → m = 0) (hc : ∀ ad, a = some ad → ∀ j u, (flatF Q2)[j]? = some u → w.cell? (ad.add j) = some u) (h1 : ∀ x ∈ Q2, x.vp.oneCell' = true ∧ x.vb.oneCell' = true) (ho : ∀ x ∈ Q2, okFn x.f)
  (hP2 : ∀ W, Tcs (fun k => S k ∨ v.ownBlock = some k) w W → PtF Q2 W) (hm : Q.length + Q2.length ≤ 100000) (hB : B ≤ w.heap.size) :
  ∃ v' w', (Builtin.append_ #[24, 24] ty #[v, .slice a m c]).run Tryz.prog w = .ok v' w' ∧ FR S B w' v' (Q ++ Q2) ∧ Tcs (fun k => v.ownBlock = some k) w w' ∧ ∀ k, v'.ownBlock = some k → v.ownBlock = some k ∨ w.heap.size ≤ k := by
 subst hm2
 obtain ⟨i0, hi, hz0, hz1, hz2⟩ := info_parts info_func
 obtain ⟨v', w', r1, r2, r3, r4⟩ := drow_app (Pg := Tryz.prog) (w := w) (T := 61) (t := 24) (c := c) (P2 := PtF Q2) ty Tryz.underlying24 hi hz0 hz1 hz2 rfl (by decide) h.row a hn (flatF_len Q2) hc (fun u hu => by
  simp only [flatF, List.mem_flatMap] at hu
  obtain ⟨x, hx, hu⟩ := hu
  obtain ⟨g1, g2⟩ := h1 x hx
  simp only [cellsF, List.mem_cons, List.not_mem_nil, or_false] at hu
  rcases hu with rfl | rfl | rfl
  ·rfl
  ·exact g1
  ·exact g2) hP2 (by omega) (by decide) hB
 refine ⟨v', w', r1, ⟨⟨by rw [List.length_append, flatF_append]; exact r2.row, fun W hW x hx => ?_⟩, fun x hx => ?_⟩, r3, r4⟩
 ·rcases List.mem_append.1 hx with hx | hx
  ·exact (r2.st W hW).1 x hx
  ·exact (r2.st W hW).2 x hx
 ·rcases List.mem_append.1 hx with hx | hx
  ·exact h.ok x hx
  ·exact ho x hx
structure TD (S : Nat → Prop) (w : World) (vg vf : Value) (t : Tr) : Prop where
 gs : ∀ W, Tcs S w W → Globs W vg t.globals
 fs : ∃ b off c, ∃ Q : List FV, vf = .slice (some ⟨b, off, none⟩) Q.length c ∧ Q.length ≤ c ∧ c ≤ 9223372036854775807 ∧ Q.map (fun q : FV => q.f) = t.funcs ∧ ∀ W, Tcs S w W → (∀ j u, (flatF Q)[j]? = some u → W.cell? ⟨b, off + j, none⟩ = some u) ∧ PtF Q W
 gl : 1 ≤ t.globals.length ∧ t.globals.length ≤ 20
 gn : ∀ x ∈ t.globals, x.name.size ≤ 100000
 fl : 1 ≤ t.funcs.length ∧ t.funcs.length ≤ 20
 ok : ∀ f ∈ t.funcs, okFn f
theorem TD.tcs {S : Nat → Prop} {w w' : World} {vg vf : Value} {t : Tr} (h : TD S w vg vf t) (ht : Tcs S w w') : TD S w' vg vf t := by
 obtain ⟨b, off, c, Q, h1, h2, h3, h4, h5⟩ := h.fs
 exact ⟨fun W hW => h.gs W (ht.trans hW), ⟨b, off, c, Q, h1, h2, h3, h4, fun W hW => h5 W (ht.trans hW)⟩, h.gl, h.gn, h.fl, h.ok⟩
theorem TD.less {S S' : Nat → Prop} {w : World} {vg vf : Value} {t : Tr} (h : TD S w vg vf t) (hs : ∀ k, S' k → S k) : TD S' w vg vf t := by
 obtain ⟨b, off, c, Q, h1, h2, h3, h4, h5⟩ := h.fs
 exact ⟨fun W hW => h.gs W (hW.mono hs), ⟨b, off, c, Q, h1, h2, h3, h4, fun W hW => h5 W (hW.mono hs)⟩, h.gl, h.gn, h.fl, h.ok⟩
theorem TD.funcs {S : Nat → Prop} {w : World} {vg vf : Value} {t : Tr} (h : TD S w vg vf t) : ∀ W, Tcs S w W → Funcs W vf t.funcs := fun W hW => by
 obtain ⟨b, off, c, Q, rfl, h2, h3, h4, h5⟩ := h.fs
 obtain ⟨hc, hp⟩ := h5 W hW
 rw [← h4]
 refine ⟨_, c, by rw [List.length_map], by rw [List.length_map]; exact h2, h3, fun hp' => ⟨b, off, rfl, fun j hj => ?_⟩⟩
 rw [List.length_map] at hj
 have key : ∀ i (hi : i < 3), W.cell? ⟨b, off + j * 3 + i, none⟩ = (cellsF Q[j])[i]? := fun i hi => by
  have e := flatF_get Q j i hj hi
  have hl : i < (cellsF Q[j]).length := hi
  rw [List.getElem?_eq_getElem hl] at e ⊢
  rw [Nat.add_assoc]
  exact hc _ _ e
 obtain ⟨e1, e2, e3⟩ := hp Q[j] (List.getElem_mem hj)
 have e2 := e2.stmts
 rw [e3] at e2
 refine ⟨Q[j].vp, Q[j].vb, ?_, ?_, ?_⟩
 ·simp only [List.getElem_map]
  exact ⟨key 0 (by omega), key 1 (by omega), key 2 (by omega)⟩
 ·simp only [List.getElem_map]; exact e1
 ·simp only [List.getElem_map]; exact e2
end
section
open Go.RowKit
def globs4 : List Gl := [⟨⟨#[103]⟩, 0⟩, ⟨⟨#[97]⟩, 8⟩, ⟨⟨#[104]⟩, 0⟩, ⟨⟨#[98]⟩, 2⟩]
def gcells : List Value := [.string ⟨#[103]⟩, .int .i64 0, .string ⟨#[97]⟩, .int .i64 8, .string ⟨#[104]⟩, .int .i64 0, .string ⟨#[98]⟩, .int .i64 2]
def ncells : List Value := [.string ⟨#[102]⟩, .string ⟨#[107]⟩, .string ⟨#[100, 101, 101, 112]⟩, .string ⟨#[120, 49]⟩]
theorem globs_fr {W : World} {b : Nat} (h : FrC W b gcells) : Globs W (.slice (some ⟨b, 0, none⟩) 4 4) globs4 := by
 refine ⟨_, 4, rfl, by decide, by decide, fun _ => ⟨b, 0, rfl, fun j hj => ?_⟩⟩
 have hj' : j < 4 := hj
 have : j = 0 ∨ j = 1 ∨ j = 2 ∨ j = 3 := by omega
 rcases this with rfl | rfl | rfl | rfl
 ·exact ⟨(h 0 _ rfl).1, (h 1 _ rfl).1⟩
 ·exact ⟨(h 2 _ rfl).1, (h 3 _ rfl).1⟩
 ·exact ⟨(h 4 _ rfl).1, (h 5 _ rfl).1⟩
 ·exact ⟨(h 6 _ rfl).1, (h 7 _ rfl).1⟩
theorem names_fr {W : World} {b j : Nat} (h : FrC W b ncells) (hj : j < 4) : ∃ s, W.cell? ⟨b, j, none⟩ = some (.string s) ∧ s.size ≤ 100000 := by
 have : j = 0 ∨ j = 1 ∨ j = 2 ∨ j = 3 := by omega
 rcases this with rfl | rfl | rfl | rfl
 ·exact ⟨_, (h 0 _ rfl).1, by decide⟩
 ·exact ⟨_, (h 1 _ rfl).1, by decide⟩
 ·exact ⟨_, (h 2 _ rfl).1, by decide⟩
 ·exact ⟨_, (h 3 _ rfl).1, by decide⟩
theorem tree_boxes (w : World) : ∃ W1, W1 = (((w.alloc (.cells #[.slice none 0 0, .slice none 0 0] 26)).alloc (.cells #[.string ⟨#[103]⟩, .int .i64 0, .string ⟨#[97]⟩, .int .i64 8, .string ⟨#[104]⟩, .int .i64 0, .string ⟨#[98]⟩, .int .i64 2] 78)).alloc (.cells #[.slice (some ⟨w.heap.size + 1, 0, none⟩) 4 4, .slice none 0 0] 26)).alloc (.cells #[.string ⟨#[102]⟩, .string ⟨#[107]⟩, .string ⟨#[100, 101, 101, 112]⟩, .string ⟨#[120, 49]⟩] 9) ∧
  FrC W1 w.heap.size [.slice none 0 0, .slice none 0 0] ∧ FrC W1 (w.heap.size + 1) gcells ∧ FrC W1 (w.heap.size + 2) [.slice (some ⟨w.heap.size + 1, 0, none⟩) 4 4, .slice none 0 0] ∧ FrC W1 (w.heap.size + 3) ncells ∧ Below w.heap.size w W1 ∧ W1.heap.size = w.heap.size + 4 := by
 refine ⟨_, rfl, ?_, ?_, ?_, ?_, ?_, by simp⟩
 ·exact (((box_fr w _ _ (by decide)).below ((Below.refl _ _).alloc (Nat.le_refl _) _)).below ((Below.refl _ _).alloc (Nat.le_refl _) _)).below ((Below.refl _ _).alloc (Nat.le_refl _) _)
 ·have := ((box_fr (w.alloc (.cells #[.slice none 0 0, .slice none 0 0] 26)) #[.string ⟨#[103]⟩, .int .i64 0, .string ⟨#[97]⟩, .int .i64 8, .string ⟨#[104]⟩, .int .i64 0, .string ⟨#[98]⟩, .int .i64 2] 78 (by decide)).below ((Below.refl _ _).alloc (Nat.le_refl _) (.cells #[.slice (some ⟨w.heap.size + 1, 0, none⟩) 4 4, .slice none 0 0] 26))).below ((Below.refl _ _).alloc (Nat.le_refl _) (.cells #[.string ⟨#[102]⟩, .string ⟨#[107]⟩, .string ⟨#[100, 101, 101, 112]⟩, .string ⟨#[120, 49]⟩] 9))
  simp only [World.size_alloc] at this
  exact this
 ·have := (box_fr ((w.alloc (.cells #[.slice none 0 0, .slice none 0 0] 26)).alloc (.cells #[.string ⟨#[103]⟩, .int .i64 0, .string ⟨#[97]⟩, .int .i64 8, .string ⟨#[104]⟩, .int .i64 0, .string ⟨#[98]⟩, .int .i64 2] 78)) #[.slice (some ⟨w.heap.size + 1, 0, none⟩) 4 4, .slice none 0 0] 26 (by simp)).below ((Below.refl _ _).alloc (Nat.le_refl _) (.cells #[.string ⟨#[102]⟩, .string ⟨#[107]⟩, .string ⟨#[100, 101, 101, 112]⟩, .string ⟨#[120, 49]⟩] 9))
  simp only [World.size_alloc] at this
  exact this
 ·have := box_fr (((w.alloc (.cells #[.slice none 0 0, .slice none 0 0] 26)).alloc (.cells #[.string ⟨#[103]⟩, .int .i64 0, .string ⟨#[97]⟩, .int .i64 8, .string ⟨#[104]⟩, .int .i64 0, .string ⟨#[98]⟩, .int .i64 2] 78)).alloc (.cells #[.slice (some ⟨w.heap.size + 1, 0, none⟩) 4 4, .slice none 0 0] 26)) #[.string ⟨#[102]⟩, .string ⟨#[107]⟩, .string ⟨#[100, 101, 101, 112]⟩, .string ⟨#[120, 49]⟩] 9 (by decide)
  simp only [World.size_alloc] at this
  exact this
 ·exact ((((Below.refl _ _).alloc (Nat.le_refl _) _).alloc (by simp) _).alloc (by simp; omega) _).alloc (by simp; omega) _
def Sx (g T q : Nat) : Nat → Prop := fun k => k = g ∨ k = T ∨ k = q
structure LI (g : Nat) (a : Option Addr) (len cap T q GL M : Nat) (W2 wr : World) (j : Nat) : Prop where
 cur : Cur g a len cap wr
 tcs : Tcs (Sx g T q) W2 wr
 ex : ∃ fa fn fc Q, FrC wr T [.slice (some ⟨GL, 0, none⟩) 4 4, .slice fa fn fc] ∧ FR (fun k => k < M) M wr (.slice fa fn fc) Q ∧ Q.length = j ∧ ∃ ca cn cc pa pn pc, ∃ (cs : List ByteArray) (ps : List Int), FrC wr q [.slice ca cn cc, .slice pa pn pc, .slice none 0 0, .slice none 0 0, .int .i64 0] ∧ (∀ W, Tcs (Sv (Sx g T q) (.slice fa fn fc)) wr W → Strs W (.slice ca cn cc) cs ∧ Ints W (.slice pa pn pc) ps) ∧ cs.length = j ∧ ps.length = j ∧ (∀ x ∈ ps, 0 ≤ x ∧ x ≤ 6) ∧ ∀ x ∈ cs, x.size ≤ 100000
structure PI (g : Nat) (a : Option Addr) (len cap F : Nat) (nm : ByteArray) (W3 wx : World) (k : Nat) : Prop where
 cur : Cur g a len cap wx
 tcs : Tcs (fun b => b = g ∨ b = F) W3 wx
 ex : ∃ pa pn pc, ∃ ps : List ByteArray, FrC wx F [.string nm, .slice pa pn pc, .slice none 0 0] ∧ wx.ownsRow W3.heap.size 9 1 (.slice pa pn pc) ps.length (ps.map Value.string) ∧ ps.length = k ∧ ∀ x ∈ ps, x.size ≤ 100000
theorem cat_size (s t : ByteArray) : (s ++ t).size = s.size + t.size := ByteArray.size_append
theorem param_step {g : Nat} {a : Option Addr} {len cap F : Nat} {nm : ByteArray} {W3 wr : World} {k : Nat} (h : PI g a len cap F nm W3 wr k) (hF : g < F ∧ F < W3.heap.size) (hL : Lo g a len (S0 g) F) (hk : k ≤ 10) (A : ByteArray) (hA : A.size ≤ 1000) (pa : Option Addr) (pn pc : Nat) (hy : wr.cell? ⟨F, 1, none⟩ = some (.slice pa pn pc)) (P2 : Obj) :
  ∀ w6 s w7, s.size ≤ 1 → Dr g a len cap (S0 g) (wr.drew.alloc P2) w6 → Below w6.heap.size w6 w7 → ∃ va vn vc w8, (Builtin.append_ #[58, 58] 58 #[.slice pa pn pc, .slice (some ⟨w7.heap.size, 0, none⟩) 1 1]).run Tryz.prog (w7.alloc (.cells #[.string (s ++ A)] 9)) = .ok (.slice va vn vc) w8 ∧ (w6.cell? ⟨F, 1, none⟩ = some (.slice pa pn pc) ∧ w7.cell? ⟨F, 1, none⟩ = some (.slice pa pn pc) ∧ (w7.alloc (.cells #[.string (s ++ A)] 9)).cell? ⟨F, 1, none⟩ = some (.slice pa pn pc)) ∧ w8.cell? ⟨F, 1, none⟩ = some (.slice pa pn pc) ∧ w8.frozen? ⟨F, 1, none⟩ = false ∧ PI g a len cap F nm W3 (w8.setCell ⟨F, 1, none⟩ (.slice va vn vc)) (k + 1) := by
 intro w6 s w7 hs hd hb
 obtain ⟨hcu, ht, pa', pn', pc', ps, hf, ho, hpk, hps⟩ := h
 have e := (hf 1 _ rfl).1
 rw [hy] at e
 simp only [Option.some.injEq] at e
 rw [← e] at hf ho
 have hlF : F < wr.heap.size := Nat.lt_of_lt_of_le hF.2 ht.size
 have nF : ¬ S0 g F := fun e => by have : F = g := e; omega
 have t6 : Tcs (S0 g) wr w6 := (((Tcs.refl (S0 g) wr).drew).alloc P2).trans hd.tcs
 have t7 : Tcs (S0 g) wr w7 := t6.of_below hb
 have t7a : Tcs (S0 g) wr (w7.alloc (.cells #[.string (s ++ A)] 9)) := t7.alloc _
 have f6 := hf.tcs hlF t6 nF
 have f7 := hf.tcs hlF t7 nF
 have f7a := hf.tcs hlF t7a nF
 have hS3 : ∀ k, S0 g k → k < W3.heap.size := fun k hk => by have : k = g := hk; omega
 have o7 := own_tcs ho t7a hS3
 obtain ⟨i0, hi, hz0, hz1, hz2⟩ := info_parts info_str
 have hlit : (w7.alloc (.cells #[.string (s ++ A)] 9)).ownsRow w7.heap.size 9 1 (.slice (some ⟨w7.heap.size, 0, none⟩) 1 1) 1 [.string (s ++ A)] := World.ownsRow_lit w7 #[.string (s ++ A)] 1 (Nat.le_refl _) (by decide) rfl
 obtain ⟨v8, w8, r8, o8, g8, -⟩ := run_appG (P := Tryz.prog) (w := w7.alloc (.cells #[.string (s ++ A)] 9)) W3.heap.size 58 58 9 i0 _ 1 16 Tryz.underlying58 hi hz0 hz1 hz2 rfl (by decide) (.slice pa pn pc) _ _ o7 (some ⟨w7.heap.size, 0, none⟩) 1 1 [.string (s ++ A)] (fun e => by cases e) rfl (fun ad had j u hu => by cases had; exact World.ownsRow.cells hlit (g := w7.heap.size) rfl j u hu) (fun u hu => by simp at hu; subst hu; rfl) (by omega) (by decide) (Nat.le_trans ht.size t7a.size)
 obtain ⟨va, vc, rfl, -⟩ := own_shape o8
 have t8 : Tcs (fun k => W3.heap.size ≤ k) (w7.alloc (.cells #[.string (s ++ A)] 9)) w8 := Tcs.of_grown g8 (fun k hk => (World.ownsRow.lt o7 k hk).1)
 have hl7 : F < (w7.alloc (.cells #[.string (s ++ A)] 9)).heap.size := Nat.lt_of_lt_of_le hlF t7a.size
 have f8 := f7a.tcs hl7 t8 (by omega)
 refine ⟨va, _, vc, w8, r8, ⟨(f6 1 _ rfl).1, (f7 1 _ rfl).1, (f7a 1 _ rfl).1⟩, (f8 1 _ rfl).1, (f8 1 _ rfl).2, ?_, ?_, va, ps.length + 1, vc, ps ++ [s ++ A], ?_, ?_, by simp [hpk], fun x hx => ?_⟩
 ·have c8 : Cur g a len cap w8 := ((hd.cur.below hb).alloc _).new (hL.mono (Nat.le_of_lt hF.2)) t8 (fun k hk => hk)
  exact c8.keep ((Tcs.refl (fun k => k = F) w8).setCell (p := ⟨F, 1, none⟩) rfl _) (by omega) (fun b off x y e => by have := (hL.by8 b off x y).1; omega)
 ·refine ((ht.trans (t7a.mono fun k hk => .inl hk)).next t8 (fun k hk => .inr hk)).setCell (p := ⟨F, 1, none⟩) (.inr rfl) _
 ·exact f8.set 1 _
 ·have e1 : (ps ++ [s ++ A]).length = ps.length + 1 := by simp
  have e2 : (ps ++ [s ++ A]).map Value.string = ps.map Value.string ++ [.string (s ++ A)] := by simp
  rw [e1, e2]
  refine own_tcs o8 ((Tcs.refl (fun k => k = F) w8).setCell (p := ⟨F, 1, none⟩) rfl _) (fun k hk => by omega)
 ·rcases List.mem_append.1 hx with hx | hx
  ·exact hps x hx
  ·simp only [List.mem_singleton] at hx
   subst hx
   rw [cat_size]
   omega
def S5 (g T q F I : Nat) (v : Value) : Nat → Prop := fun k => k = g ∨ k = T ∨ k = q ∨ k = F ∨ k = I ∨ v.ownBlock = some k
theorem gs_make {g : Nat} {a : Option Addr} {len cap T q F I : Nat} {wr W3 wx : World} {vF : Value} {ca pa px : Option Addr} {cn cc pn pc pm py : Nat} {cs qs : List ByteArray} {ps : List Int}
  (hst : ∀ W, Tcs (Sv (Sx g T q) vF) wr W → Strs W (.slice ca cn cc) cs ∧ Ints W (.slice pa pn pc) ps) (hl : ps.length = cs.length ∧ cs.length ≤ 4) (hpb : (∀ x ∈ ps, 0 ≤ x ∧ x ≤ 6) ∧ ∀ x ∈ cs, x.size ≤ 100000)
  (hb : Below wr.heap.size wr W3) (hF : F = wr.heap.size) (hI : I = wr.heap.size + 1) (hs : W3.heap.size = wr.heap.size + 2) (hfI : FrC W3 I [.slice ca cn cc, .slice pa pn pc, .slice none 0 0, .slice none 0 0, .int .i64 0]) (hfz : ∀ j, W3.frozen? ⟨I, j, none⟩ = false)
  (hcu : Cur g a len cap wx) (ht : Tcs (fun b => b = g ∨ b = F) W3 wx) (ho : wx.ownsRow W3.heap.size 9 1 (.slice px pm py) qs.length (qs.map Value.string)) (hq6 : qs.length ≤ 6) (hqs : ∀ x ∈ qs, x.size ≤ 100000)
  (hne : g < T ∧ T < wr.heap.size ∧ g < q ∧ q < wr.heap.size) (hL : Lo g a len (S0 g) T) (hTq : T < q) (hv : ∀ k, vF.ownBlock = some k → q < k ∧ k < wr.heap.size) :
  GS g a len cap I (S5 g T q F I vF) (wx.setCell ⟨I, 2, none⟩ (.slice px pm py)) ⟨.slice ca cn cc, .slice pa pn pc, .slice px pm py, .slice none 0 0, 0, cs, ps, qs, []⟩ 10 ∧ FrC wx I [.slice ca cn cc, .slice pa pn pc, .slice none 0 0, .slice none 0 0, .int .i64 0] := by
 have hIx : FrC wx I [.slice ca cn cc, .slice pa pn pc, .slice none 0 0, .slice none 0 0, .int .i64 0] := hfI.tcs (by omega) ht (fun e => by rcases e with e | e <;> omega)
 have hsx := ht.size
 have h5 : ∀ k, S5 g T q F I vF k → k < W3.heap.size := fun k hk => by
  rcases hk with h | h | h | h | h | h
  ·omega
  ·omega
  ·omega
  ·omega
  ·omega
  ·have := (hv k h).2; omega
 refine ⟨?_, hIx⟩
 have hset : Tcs (S5 g T q F I vF) wx (wx.setCell ⟨I, 2, none⟩ (.slice px pm py)) := (Tcs.refl _ _).setCell (p := ⟨I, 2, none⟩) (.inr (.inr (.inr (.inr (.inl rfl))))) _
 have hf2 := hIx.set 2 (.slice px pm py)
 refine ⟨?_, ⟨(hf2 0 _ rfl).1, (hf2 1 _ rfl).1, (hf2 2 _ rfl).1, (hf2 3 _ rfl).1, (hf2 4 _ rfl).1, fun j => ?_⟩, GnOk.tcs (w := wx) ?_ hset, ⟨?_, .inl rfl, fun b off x y => ?_, fun k hk => ?_⟩, .inr (.inr (.inr (.inr (.inl rfl)))), by omega⟩
 ·exact hcu.keep ((Tcs.refl (fun k => k = I) wx).setCell (p := ⟨I, 2, none⟩) rfl _) (by omega) (fun b off x y e => by have := (hL.by8 b off x y).1; omega)
 ·rw [World.frozen?_setCell]
  exact (World.frozen?_of_block (a := ⟨I, j, none⟩) (ht.block I (by omega) (fun e => by rcases e with e | e <;> omega))).trans (hfz j)
 ·have key : ∀ W, Tcs (S5 g T q F I vF) wx W → Tcs (Sv (Sx g T q) vF) wr W := fun W hW => by
   have h1 : Tcs (Sv (Sx g T q) vF) wr wx := (hb.tcs (S := Sv (Sx g T q) vF)).next ht (fun k hk => by
    rcases hk with hk | hk
    ·exact .inl (.inl (.inl hk))
    ·exact .inr (by omega))
   refine h1.next hW fun k hk => ?_
   rcases hk with h | h | h | h | h | h
   ·exact .inl (.inl (.inl h))
   ·exact .inl (.inl (.inr (.inl h)))
   ·exact .inl (.inl (.inr (.inr h)))
   ·exact .inr (by omega)
   ·exact .inr (by omega)
   ·exact .inl (.inr h)
  exact ⟨fun W hW => (hst W (key W hW)).1, fun W hW => (hst W (key W hW)).2, fun W hW => own_strs (own_tcs ho hW h5), fun W _ => ⟨none, 0, rfl, Nat.le_refl _, by omega, fun h => absurd h (Nat.lt_irrefl _)⟩, hl.1, by show cs.length ≤ 10; omega, hpb.1, ⟨hpb.2, hqs, fun x hx => by cases hx⟩, by show qs.length ≤ 10; omega, Nat.zero_le _, by show (0 : Int) ≤ 0 ∧ (0 : Int) ≤ 10; omega⟩
 ·have : (wx.setCell ⟨I, 2, none⟩ (.slice px pm py)).heap.size = wx.heap.size := by simp
  omega
 ·have h8 := hL.by8 b off x y
  have : (wx.setCell ⟨I, 2, none⟩ (.slice px pm py)).heap.size = wx.heap.size := by simp
  refine ⟨by omega, fun e => ?_⟩
  rcases e with h | h | h | h | h | h
  ·exact h8.2 h
  ·omega
  ·omega
  ·omega
  ·omega
  ·have := (hv b h).1; omega
 ·have : (wx.setCell ⟨I, 2, none⟩ (.slice px pm py)).heap.size = wx.heap.size := by simp
  have := h5 k hk
  omega
theorem GS.side {g : Nat} {a : Option Addr} {len cap q : Nat} {S : Nat → Prop} {w : World} {G : Gn} {K : Nat} (h : GS g a len cap q S w G K) {b o : Nat} {v : Value} (hb : S b) (hg : b ≠ g) (hq : b ≠ q) : GS g a len cap q S (w.setCell ⟨b, o, none⟩ v) G K := by
 have ht : Tcs (fun k => k = b) w (w.setCell ⟨b, o, none⟩ v) := (Tcs.refl (fun k => k = b) w).setCell (p := ⟨b, o, none⟩) rfl v
 exact ⟨h.cur.keep ht (fun e => hg e.symm) (fun b' off x y e => (h.lo.by8 b' off x y).2 (e ▸ hb)), h.box.keep (ht.block q h.box.lt (fun e => hq e.symm)), h.ok.tcs (ht.mono fun k hk => hk ▸ hb), h.lo.mono ht.size, h.sq, h.ne⟩
theorem body_step {g : Nat} {a : Option Addr} {len cap F B L : Nat} {nm : ByteArray} {par : Value} {ba : Option Addr} {bn bc : Nat} {W13 : World} {Rb : List SV} (hf : FrC W13 F [.string nm, par, .slice ba bn bc]) (hr : SR B W13 (.slice ba bn bc) Rb L) (hB : F < B ∧ B ≤ W13.heap.size) (hg : g < F) (hL : Lo g a len (S0 g) F) (hLm : L ≤ 1000) :
  ∀ w14 ua un uc ns, NRow W13.heap.size w14 (.slice ua un uc) ns → okN ns 400 → Dr g a len cap (S0 g) W13.drew w14 → ∃ va vn vc w15, (Builtin.append_ #[59, 59] 59 #[.slice ba bn bc, .slice (some ⟨w14.heap.size, 0, none⟩) 1 1]).run Tryz.prog (w14.alloc (.cells #[.int .i64 6, .string ⟨#[]⟩, .slice ua un uc, .slice none 0 0, .int .i64 0, .int .i64 0] 88)) = .ok (.slice va vn vc) w15 ∧ (w14.cell? ⟨F, 2, none⟩ = some (.slice ba bn bc) ∧ (w14.alloc (.cells #[.int .i64 6, .string ⟨#[]⟩, .slice ua un uc, .slice none 0 0, .int .i64 0, .int .i64 0] 88)).cell? ⟨F, 2, none⟩ = some (.slice ba bn bc)) ∧ w15.cell? ⟨F, 2, none⟩ = some (.slice ba bn bc) ∧ w15.frozen? ⟨F, 2, none⟩ = false ∧ (∃ R', SR B (w15.setCell ⟨F, 2, none⟩ (.slice va vn vc)) (.slice va vn vc) R' (L + 1) ∧ R'.length = Rb.length + 1) ∧ FrC (w15.setCell ⟨F, 2, none⟩ (.slice va vn vc)) F [.string nm, par, .slice va vn vc] ∧ Cur g a len cap (w15.setCell ⟨F, 2, none⟩ (.slice va vn vc)) ∧ Tcs (fun b => b = g ∨ b = F ∨ B ≤ b) W13 (w15.setCell ⟨F, 2, none⟩ (.slice va vn vc)) := by
 intro w14 ua un uc ns hn ho hd
 have nF : ¬ S0 g F := fun e => by have : F = g := e; omega
 have hlF : F < W13.heap.size := by omega
 have hSB : ∀ k, S0 g k → k < B := fun k hk => by have : k = g := hk; omega
 have t14 : Tcs (S0 g) W13 w14 := ((Tcs.refl (S0 g) W13).drew).trans hd.tcs
 have f14 := hf.tcs hlF t14 nF
 obtain ⟨o, hoo⟩ : ∃ o : Obj, o = .cells #[.int .i64 6, .string ⟨#[]⟩, .slice ua un uc, .slice none 0 0, .int .i64 0, .int .i64 0] 88 := ⟨_, rfl⟩
 have f14a := f14.below ((Below.refl w14.heap.size w14).alloc (Nat.le_refl _) o)
 have hr14 := (hr.tcs t14 hSB).below ((Below.refl w14.heap.size w14).alloc (Nat.le_refl _) o)
 have hlit := sr_lit (w := w14) (B := W13.heap.size) (kd := 6) (th := 0) (el := 0) (nm := ⟨#[]⟩) (vf := .slice none 0 0) (f := []) t14.size (nrow_st hn (Nat.le_refl _)) (fun W _ => nodes_none W) (ho.e3 (by omega)) (okN.nil.more (Nat.zero_le _)) (by decide)
 rw [← hoo] at hlit ⊢
 have hs14 : B ≤ (w14.alloc o).heap.size := by have := t14.size; simp; omega
 obtain ⟨v15, w15, r15, h15, t15, -⟩ := sr_app 59 hr14 hlit hs14 (by omega) (sr_behind hlit hB.2 (fun k hk => (hr.rng k hk).2))
 obtain ⟨va, vn, vc, rfl⟩ : ∃ x y z, v15 = .slice x y z := by obtain ⟨x, y, e⟩ := h15.shape; exact ⟨x, _, y, e⟩
 have t15' : Tcs (fun k => B ≤ k) (w14.alloc o) w15 := t15.mono fun k hk => (hr.rng k hk).1
 have hlF2 : F < (w14.alloc o).heap.size := by omega
 have f15 := f14a.tcs hlF2 t15' (by omega)
 have tS : Tcs (fun k => k = F) w15 (w15.setCell ⟨F, 2, none⟩ (.slice va vn vc)) := (Tcs.refl (fun k => k = F) w15).setCell (p := ⟨F, 2, none⟩) rfl _
 refine ⟨va, vn, vc, w15, r15, ⟨(f14 2 _ rfl).1, (f14a 2 _ rfl).1⟩, (f15 2 _ rfl).1, (f15 2 _ rfl).2, ⟨_, h15.tcs tS (fun k hk => by omega), by simp⟩, f15.set 2 _, ?_, ?_⟩
 ·have c15 : Cur g a len cap w15 := (hd.cur.alloc o).new (hL.mono (by omega)) t15' (fun k hk => hk)
  exact c15.keep tS (by omega) (fun b off x y e => by have := (hL.by8 b off x y).1; omega)
 ·exact ((((t14.mono fun k hk => .inl hk).alloc o).trans (t15'.mono fun k hk => .inr (.inr hk)))).trans (tS.mono fun k hk => .inr (.inl hk))
theorem func_step {g : Nat} {a : Option Addr} {len cap T F B Bp M : Nat} {nm : ByteArray} {vG : Value} {fa px ba : Option Addr} {fn fc pm py bn bc : Nat} {W16 : World} {Q : List FV} {qs : List ByteArray} {R' : List SV} {L : Nat}
  (hT : FrC W16 T [vG, .slice fa fn fc]) (hF : FrC W16 F [.string nm, .slice px pm py, .slice ba bn bc]) (hfr : FR (fun k => k < M) M W16 (.slice fa fn fc) Q) (hQ : Q.length ≤ 10) (hcu : Cur g a len cap W16) (hne : g < T ∧ T < M ∧ M ≤ W16.heap.size ∧ M ≤ F ∧ F < W16.heap.size) (hL : Lo g a len (S0 g) T)
  (hp : ∀ W, Tcs (fun b => b < Bp) W16 W → Strs W (.slice px pm py) qs) (hBp : M ≤ Bp) (hq : qs.length ≤ 6 ∧ ∀ x ∈ qs, x.size ≤ 100000) (hn : nm.size ≤ 100000) (hr : SR B W16 (.slice ba bn bc) R' L) (hL2 : 1 ≤ R'.length ∧ L ≤ 1000) (hMB : M ≤ B) (hvF : ∀ k, (Value.slice fa fn fc).ownBlock = some k → k < B ∧ k < Bp ∧ k ≠ F) :
  ∃ va vn vc w17, (Builtin.append_ #[24, 24] 24 #[.slice fa fn fc, .slice (some ⟨W16.heap.size, 0, none⟩) 1 1]).run Tryz.prog (W16.alloc (.cells #[.string nm, .slice px pm py, .slice ba bn bc] 61)) = .ok (.slice va vn vc) w17 ∧ (w17.cell? ⟨T, 1, none⟩ = some (.slice fa fn fc) ∧ w17.frozen? ⟨T, 1, none⟩ = false) ∧ FrC (w17.setCell ⟨T, 1, none⟩ (.slice va vn vc)) T [vG, .slice va vn vc] ∧ FrC (w17.setCell ⟨T, 1, none⟩ (.slice va vn vc)) F [.string nm, .slice px pm py, .slice ba bn bc] ∧ (∃ Q', FR (fun k => k < M) M (w17.setCell ⟨T, 1, none⟩ (.slice va vn vc)) (.slice va vn vc) Q' ∧ Q'.length = Q.length + 1) ∧ Cur g a len cap (w17.setCell ⟨T, 1, none⟩ (.slice va vn vc)) ∧ (∀ W, Tcs (fun b => b = T ∨ (Value.slice va vn vc).ownBlock = some b) (w17.setCell ⟨T, 1, none⟩ (.slice va vn vc)) W → Tcs (fun b => b = T ∨ (Value.slice fa fn fc).ownBlock = some b) W16 W) ∧ Tcs (fun b => b = T ∨ (Value.slice fa fn fc).ownBlock = some b) W16 (w17.setCell ⟨T, 1, none⟩ (.slice va vn vc)) := by
 obtain ⟨o, hoo⟩ : ∃ o : Obj, o = .cells #[.string nm, .slice px pm py, .slice ba bn bc] 61 := ⟨_, rfl⟩
 have hb : Below W16.heap.size W16 (W16.alloc o) := (Below.refl _ _).alloc (Nat.le_refl _) _
 have hc : FrC (W16.alloc o) W16.heap.size [.string nm, .slice px pm py, .slice ba bn bc] := by rw [hoo]; exact box_fr W16 _ _ (by simp)
 have hall : ∀ W, Tcs (fun k => k < M ∨ (Value.slice fa fn fc).ownBlock = some k) (W16.alloc o) W → PtF [⟨⟨nm, qs, R'.map (·.s)⟩, .slice px pm py, .slice ba bn bc, R', [], []⟩] W := fun W hW x hx => by
  simp only [List.mem_singleton] at hx
  subst hx
  have hW' : Tcs (fun b => b < B) W16 W := (hb.tcs (S := fun b => b < B)).trans (hW.mono fun k hk => by
   rcases hk with hk | hk
   ·omega
   ·have := hvF k hk; omega)
  have hW2 : Tcs (fun b => b < Bp) W16 W := (hb.tcs (S := fun b => b < Bp)).trans (hW.mono fun k hk => by
   rcases hk with hk | hk
   ·omega
   ·have := hvF k hk; omega)
  exact ⟨hp W hW2, hr.rd W hW', rfl⟩
 have hok : okFn ⟨nm, qs, R'.map (·.s)⟩ := ⟨hn, by show qs.length ≤ 20; omega, hq.2, by show 1 ≤ (R'.map (·.s)).length; simp; omega, by show (R'.map (·.s)).length ≤ 10000; have := hr.len; simp; omega, hr.ok.body⟩
 obtain ⟨v17, w17, r17, h17, t17, f17⟩ := fr_app 24 (c := 1) (m := 1) (hfr.below hb) (some ⟨W16.heap.size, 0, none⟩) (Q2 := [⟨⟨nm, qs, R'.map (·.s)⟩, .slice px pm py, .slice ba bn bc, R', [], []⟩]) rfl (fun e => by cases e) (fun ad had j u hu => by
  cases had
  rw [addrO, Nat.zero_add]
  exact (hc j u hu).1) (fun x hx => by simp only [List.mem_singleton] at hx; subst hx; exact ⟨rfl, rfl⟩) (fun x hx => by simp only [List.mem_singleton] at hx; subst hx; exact hok) hall (by simp; omega) (by have := hb.size; omega)
 obtain ⟨va, vn, vc, rfl⟩ : ∃ x y z, v17 = .slice x y z := by obtain ⟨x, y, e⟩ := h17.shape; exact ⟨x, _, y, e⟩
 rw [hoo] at r17
 have t17' : Tcs (fun k => M ≤ k) (W16.alloc o) w17 := t17.mono fun k hk => (hfr.rng k hk).1
 have hT17 := (hT.below hb).tcs (by have := hb.size; omega) t17' (by omega)
 have hF17 := (hF.below hb).tcs (by have := hb.size; omega) t17 (fun e => (hvF F e).2.2 rfl)
 have tS : Tcs (fun k => k = T) w17 (w17.setCell ⟨T, 1, none⟩ (.slice va vn vc)) := (Tcs.refl (fun k => k = T) w17).setCell (p := ⟨T, 1, none⟩) rfl _
 have hs17 : F < w17.heap.size := by have := hb.size; have := t17.size; omega
 have tA : Tcs (fun b => b = T ∨ (Value.slice fa fn fc).ownBlock = some b) W16 (w17.setCell ⟨T, 1, none⟩ (.slice va vn vc)) := ((hb.tcs (S := fun b => b = T ∨ (Value.slice fa fn fc).ownBlock = some b)).trans (t17.mono fun k hk => .inr hk)).trans (tS.mono fun k hk => .inl hk)
 refine ⟨va, vn, vc, w17, r17, ⟨(hT17 1 _ rfl).1, (hT17 1 _ rfl).2⟩, hT17.set 1 _, hF17.tcs hs17 tS (by omega), ⟨_, h17.tcs (tS.mono fun k hk => by omega) (fun k hk => hk), by simp⟩, ?_, fun W hW => ?_, tA⟩
 ·have c17 : Cur g a len cap w17 := (hcu.alloc o).new (hL.mono (Nat.le_of_lt hne.2.1)) t17' (fun k hk => hk)
  exact c17.keep tS (by omega) (fun b off x y e => by have := (hL.by8 b off x y).1; omega)
 ·refine tA.next hW fun k hk => ?_
  rcases hk with hk | hk
  ·exact .inl (.inl hk)
  ·rcases f17 k hk with h | h
   ·exact .inl (.inr h)
   ·exact .inr (by have := hb.size; omega)
def BdD (g : Nat) (a : Option Addr) (len cap F B L r : Nat) (nm : ByteArray) (par : Value) (W13 W : World) : Prop := ∃ va vn vc R', FrC W F [.string nm, par, .slice va vn vc] ∧ SR B W (.slice va vn vc) R' (L + 1) ∧ R'.length = r + 1 ∧ Cur g a len cap W ∧ Tcs (fun b => b = g ∨ b = F ∨ B ≤ b) W13 W
def CalD (q : Nat) (W17 : World) (vp : Value) (cs : List ByteArray) (W : World) : Prop := ∃ xa xn xc, FrC W q [.slice xa xn xc, vp, .slice none 0 0, .slice none 0 0, .int .i64 0] ∧ W.ownsRow W17.heap.size 9 1 (.slice xa xn xc) cs.length (cs.map Value.string) ∧ Tcs (fun b => b = q) W17 W
theorem cal_fin {q : Nat} {W17 w2 : World} {vc vp : Value} {v2 : Value} {cs : List ByteArray} (hq : FrC W17 q [vc, vp, .slice none 0 0, .slice none 0 0, .int .i64 0]) (hl : q < W17.heap.size) (hb : Below W17.heap.size W17 w2) (hr : w2.ownsRow W17.heap.size 9 1 v2 cs.length (cs.map Value.string)) : ∃ xa xn xc, v2 = .slice xa xn xc ∧ (w2.cell? ⟨q, 0, none⟩ = some vc ∧ w2.frozen? ⟨q, 0, none⟩ = false) ∧ CalD q W17 vp cs (w2.setCell ⟨q, 0, none⟩ v2) := by
 obtain ⟨xa, xc, rfl, -⟩ := own_shape hr
 have h2 := hq.below hb
 have tS : Tcs (fun b => b = q) w2 (w2.setCell ⟨q, 0, none⟩ (.slice xa cs.length xc)) := (Tcs.refl (fun b => b = q) w2).setCell (p := ⟨q, 0, none⟩) rfl _
 exact ⟨xa, _, xc, rfl, h2 0 _ rfl, xa, _, xc, h2.set 0 _, own_tcs hr tS (fun k hk => by omega), (hb.tcs (S := fun b => b = q)).trans tS⟩
theorem info_i64 : (Tryz.prog.info? 2).map (fun i => (i.zero, i.size, i.bytes)) = some (some (.int .i64 0), 1, 8) := by kernel_rfl
theorem ia_app (w : World) (v : Value) (ps : List Int) (z : Int) (h : Ints w v ps) (hl : ps.length ≤ 100000) (ty : TypeId) :
  ∃ v1 w1 a2 n2 c2 w2, (Builtin.append_ #[31, 31] ty #[.slice (some ⟨w.heap.size, 0, none⟩) 0 0, v]).run Tryz.prog (w.alloc (.cells #[] 2)) = .ok v1 w1 ∧ (Builtin.append_ #[31, 31] ty #[v1, .slice (some ⟨w1.heap.size, 0, none⟩) 1 1]).run Tryz.prog (w1.alloc (.cells #[.int .i64 z] 2)) = .ok (.slice a2 n2 c2) w2 ∧ w2.ownsRow w.heap.size 2 1 (.slice a2 n2 c2) (ps ++ [z]).length ((ps ++ [z]).map (Value.int .i64)) ∧ Below w.heap.size w w2 := by
 obtain ⟨i0, hi, hz0, hz1, hz2⟩ := info_parts info_i64
 have hb0 : Below w.heap.size w (w.alloc (.cells #[] 2)) := (Below.refl _ _).alloc (Nat.le_refl _) _
 have h0 : (w.alloc (.cells #[] 2)).ownsRow w.heap.size 2 1 (.slice (some ⟨w.heap.size, 0, none⟩) 0 0) 0 [] := World.ownsRow_lit w #[] 0 (Nat.le_refl _) (by decide) rfl
 obtain ⟨a, c, rfl, hc⟩ := h.below hb0
 obtain ⟨v1, w1, r1, o1, g1, -⟩ := run_appG (P := Tryz.prog) (w := w.alloc (.cells #[] 2)) w.heap.size 31 ty 2 i0 _ 1 8 Tryz.underlying31 hi hz0 hz1 hz2 rfl (by decide) _ 0 [] h0 a ps.length c (ps.map (Value.int .i64)) (fun e => by
  rcases Nat.eq_zero_or_pos ps.length with h' | h'
  ·exact h'
  ·obtain ⟨b, e', -⟩ := hc h'
   rw [e] at e'; cases e') (by simp) (fun ad had j u hu => by
  have hj : j < ps.length := by have := (List.getElem?_eq_some_iff.1 hu).1; simpa using this
  obtain ⟨b, e', hcc⟩ := hc (by omega)
  rw [had] at e'
  cases e'
  rw [addrO, Nat.zero_add]
  have := hcc j hj
  rw [this]
  simp [List.getElem?_eq_getElem hj] at hu
  rw [hu]) (fun u hu => by obtain ⟨x, -, rfl⟩ := List.mem_map.1 hu; rfl) (by omega) (by decide) hb0.size
 have hb1 : Below w.heap.size w w1 := hb0.grown g1 hb0.size (fun j hj => (World.ownsRow.lt h0 j hj).1)
 have hb2 : Below w.heap.size w (w1.alloc (.cells #[.int .i64 z] 2)) := hb1.alloc hb1.size _
 have o1' := ownB o1 ((Below.refl w1.heap.size w1).alloc (Nat.le_refl _) (.cells #[.int .i64 z] 2))
 have hlit : (w1.alloc (.cells #[.int .i64 z] 2)).ownsRow w1.heap.size 2 1 (.slice (some ⟨w1.heap.size, 0, none⟩) 1 1) 1 [.int .i64 z] := World.ownsRow_lit w1 #[.int .i64 z] 1 (Nat.le_refl _) (by decide) rfl
 obtain ⟨v2, w2, r2, o2, g2, -⟩ := run_appG (P := Tryz.prog) (w := w1.alloc (.cells #[.int .i64 z] 2)) w.heap.size 31 ty 2 i0 _ 1 8 Tryz.underlying31 hi hz0 hz1 hz2 rfl (by decide) v1 _ _ o1' (some ⟨w1.heap.size, 0, none⟩) 1 1 [.int .i64 z] (fun e => by cases e) rfl (fun ad had j u hu => by cases had; exact World.ownsRow.cells hlit (g := w1.heap.size) rfl j u hu) (fun u hu => by simp at hu; subst hu; rfl) (by omega) (by decide) hb2.size
 obtain ⟨a2, c2, rfl, -⟩ := own_shape o2
 refine ⟨v1, w1, a2, _, c2, w2, r1, r2, ?_, hb2.grown g2 hb2.size (fun j hj => (World.ownsRow.lt o1' j hj).1)⟩
 have e1 : (ps ++ [z]).length = 0 + ps.length + 1 := by simp
 have e2 : (ps ++ [z]).map (Value.int .i64) = [] ++ ps.map (Value.int .i64) ++ [.int .i64 z] := by simp
 rw [e1, e2]
 exact o2
end
section
open Go.RowKit
def S4 (g T q I : Nat) (v : Value) : Nat → Prop := fun k => k = g ∨ k = T ∨ k = q ∨ k = I ∨ v.ownBlock = some k
theorem gs_main {g : Nat} {a : Option Addr} {len cap T q : Nat} {wr : World} {vF : Value} {ca pa : Option Addr} {cn cc pn pc : Nat} {cs : List ByteArray} {ps : List Int}
  (hst : ∀ W, Tcs (Sv (Sx g T q) vF) wr W → Strs W (.slice ca cn cc) cs ∧ Ints W (.slice pa pn pc) ps) (hl : ps.length = cs.length ∧ cs.length ≤ 4) (hpb : (∀ x ∈ ps, 0 ≤ x ∧ x ≤ 6) ∧ ∀ x ∈ cs, x.size ≤ 100000)
  (hcu : Cur g a len cap wr) (hne : g < T ∧ T < wr.heap.size ∧ g < q ∧ q < wr.heap.size) (hL : Lo g a len (S0 g) T) (hTq : T < q) (hv : ∀ k, vF.ownBlock = some k → q < k ∧ k < wr.heap.size) :
  GS g a len cap wr.heap.size (S4 g T q wr.heap.size vF) (wr.alloc (.cells #[.slice ca cn cc, .slice pa pn pc, .slice none 0 0, .slice none 0 0, .int .i64 0] 80)) ⟨.slice ca cn cc, .slice pa pn pc, .slice none 0 0, .slice none 0 0, 0, cs, ps, [], []⟩ 10 := by
 have hf := box_fr wr #[.slice ca cn cc, .slice pa pn pc, .slice none 0 0, .slice none 0 0, .int .i64 0] 80 (by simp)
 have hs : (wr.alloc (.cells #[.slice ca cn cc, .slice pa pn pc, .slice none 0 0, .slice none 0 0, .int .i64 0] 80)).heap.size = wr.heap.size + 1 := by simp
 refine ⟨hcu.alloc _, ⟨(hf 0 _ rfl).1, (hf 1 _ rfl).1, (hf 2 _ rfl).1, (hf 3 _ rfl).1, (hf 4 _ rfl).1, fun j => by simp⟩, ?_, ⟨by omega, .inl rfl, fun b off x y => ?_, fun k hk => ?_⟩, .inr (.inr (.inr (.inl rfl))), by omega⟩
 ·have key : ∀ W, Tcs (S4 g T q wr.heap.size vF) (wr.alloc (.cells #[.slice ca cn cc, .slice pa pn pc, .slice none 0 0, .slice none 0 0, .int .i64 0] 80)) W → Tcs (Sv (Sx g T q) vF) wr W := fun W hW => ((Tcs.refl (Sv (Sx g T q) vF) wr).alloc _).next hW fun k hk => by
   rcases hk with h | h | h | h | h
   ·exact .inl (.inl (.inl h))
   ·exact .inl (.inl (.inr (.inl h)))
   ·exact .inl (.inl (.inr (.inr h)))
   ·exact .inr (by omega)
   ·exact .inl (.inr h)
  have nil : ∀ W, Strs W (.slice none 0 0) [] := fun W => ⟨none, 0, rfl, Nat.le_refl _, by omega, fun h => absurd h (Nat.lt_irrefl _)⟩
  exact ⟨fun W hW => (hst W (key W hW)).1, fun W hW => (hst W (key W hW)).2, fun W _ => nil W, fun W _ => nil W, hl.1, by show cs.length ≤ 10; omega, hpb.1, ⟨hpb.2, (fun x hx => by cases hx), (fun x hx => by cases hx)⟩, Nat.zero_le _, Nat.zero_le _, by show (0 : Int) ≤ 0 ∧ (0 : Int) ≤ 10; omega⟩
 ·have h8 := hL.by8 b off x y
  refine ⟨by omega, fun e => ?_⟩
  rcases e with h | h | h | h | h
  ·exact h8.2 h
  ·omega
  ·omega
  ·omega
  ·have := (hv b h).1; omega
 ·rcases hk with h | h | h | h | h
  ·omega
  ·omega
  ·omega
  ·omega
  ·have := (hv k h).2; omega
theorem front_step {g : Nat} {a : Option Addr} {len cap T B M : Nat} {nm : ByteArray} {vG : Value} {fa ba : Option Addr} {fn fc bn bc : Nat} {W16 : World} {Q : List FV} {R' : List SV} {L : Nat}
  (hT : FrC W16 T [vG, .slice fa fn fc]) (hfr : FR (fun k => k < M) M W16 (.slice fa fn fc) Q) (hQ : Q.length ≤ 10) (hcu : Cur g a len cap W16) (hne : g < T ∧ T < M ∧ M ≤ W16.heap.size) (hL : Lo g a len (S0 g) T) (hn : nm.size ≤ 100000) (hr : SR B W16 (.slice ba bn bc) R' L) (hL2 : 1 ≤ R'.length ∧ L ≤ 1000) (hMB : M ≤ B) :
  ∃ va vn vc w17, (Builtin.append_ #[24, 24] 24 #[.slice (some ⟨W16.heap.size, 0, none⟩) 1 1, .slice fa fn fc]).run Tryz.prog (W16.alloc (.cells #[.string nm, .slice none 0 0, .slice ba bn bc] 61)) = .ok (.slice va vn vc) w17 ∧ (w17.cell? ⟨T, 1, none⟩ = some (.slice fa fn fc) ∧ w17.frozen? ⟨T, 1, none⟩ = false) ∧ FrC (w17.setCell ⟨T, 1, none⟩ (.slice va vn vc)) T [vG, .slice va vn vc] ∧ (∃ Q', FR (fun k => k < M) M (w17.setCell ⟨T, 1, none⟩ (.slice va vn vc)) (.slice va vn vc) Q' ∧ Q'.length = Q.length + 1) ∧ Cur g a len cap (w17.setCell ⟨T, 1, none⟩ (.slice va vn vc)) ∧ Tcs (fun b => b = T) W16 (w17.setCell ⟨T, 1, none⟩ (.slice va vn vc)) := by
 obtain ⟨o, hoo⟩ : ∃ o : Obj, o = .cells #[.string nm, .slice none 0 0, .slice ba bn bc] 61 := ⟨_, rfl⟩
 have hb : Below W16.heap.size W16 (W16.alloc o) := (Below.refl _ _).alloc (Nat.le_refl _) _
 have hok : okFn ⟨nm, [], R'.map (·.s)⟩ := ⟨hn, by show (0 : Nat) ≤ 20; omega, (fun p hp => by cases hp), by show 1 ≤ (R'.map (·.s)).length; simp; omega, by show (R'.map (·.s)).length ≤ 10000; have := hr.len; simp; omega, hr.ok.body⟩
 have hlit : FR (fun k => k < M) M (W16.alloc o) (.slice (some ⟨W16.heap.size, 0, none⟩) 1 1) [⟨⟨nm, [], R'.map (·.s)⟩, .slice none 0 0, .slice ba bn bc, R', [], []⟩] := by
  refine ⟨⟨?_, fun W hW x hx => ?_⟩, fun x hx => by simp only [List.mem_singleton] at hx; subst hx; exact hok⟩
  ·rw [hoo]
   exact World.ownsRow_lit W16 #[.string nm, .slice none 0 0, .slice ba bn bc] 1 hne.2.2 (by decide) rfl
  ·simp only [List.mem_singleton] at hx
   subst hx
   have hW' : Tcs (fun b => b < B) W16 W := (hb.tcs (S := fun b => b < B)).next hW fun k hk => by
    rcases hk with hk | hk
    ·exact .inl (by omega)
    ·simp only [Value.ownBlock, Option.some.injEq] at hk
     exact .inr (by omega)
   exact ⟨⟨none, 0, rfl, Nat.le_refl _, by omega, fun h => absurd h (Nat.lt_irrefl _)⟩, hr.rd W hW', rfl⟩
 have hfa := hfr.below hb
 obtain ⟨a', c', he, hnn, hcc⟩ := own_shape hfa.row.row
 simp only [Value.slice.injEq] at he
 obtain ⟨rfl, hfn, rfl⟩ := he
 obtain ⟨v17, w17, r17, h17, t17, f17⟩ := fr_app 24 (c := fc) (m := fn) hlit fa (Q2 := Q) hfn (fun e => by rw [hfn]; exact hnn e) hcc (fun x hx => by
  obtain ⟨e1, e2, -⟩ := hfa.row.now x hx
  obtain ⟨_, _, e1, -⟩ := e1
  exact ⟨by rw [e1]; rfl, e2.one⟩) hfr.ok (fun W hW => hfr.row.st W ((hb.tcs (S := fun k => k < M ∨ (Value.slice fa fn fc).ownBlock = some k)).next hW fun k hk => by
   rcases hk with hk | hk
   ·exact .inl (.inl hk)
   ·simp only [Value.ownBlock, Option.some.injEq] at hk
    exact .inr (by omega))) (by simp; omega) (by have := hb.size; omega)
 obtain ⟨va, vn, vc, rfl⟩ : ∃ x y z, v17 = .slice x y z := by obtain ⟨x, y, e⟩ := h17.shape; exact ⟨x, _, y, e⟩
 rw [hoo] at r17
 have t17' : Tcs (fun k => W16.heap.size ≤ k) (W16.alloc o) w17 := t17.mono fun k hk => by simp only [Value.ownBlock, Option.some.injEq] at hk; omega
 have hT17 := (hT.below hb).tcs (by have := hb.size; omega) t17' (by omega)
 have tS : Tcs (fun k => k = T) w17 (w17.setCell ⟨T, 1, none⟩ (.slice va vn vc)) := (Tcs.refl (fun k => k = T) w17).setCell (p := ⟨T, 1, none⟩) rfl _
 refine ⟨va, vn, vc, w17, r17, ⟨(hT17 1 _ rfl).1, (hT17 1 _ rfl).2⟩, hT17.set 1 _, ⟨_, h17.tcs (tS.mono fun k hk => by omega) (fun k hk => hk), by simp⟩, ?_, ?_⟩
 ·have c17 : Cur g a len cap w17 := (hcu.alloc o).new (hL.mono (by omega)) t17' (fun k hk => hk)
  exact c17.keep tS (by omega) (fun b off x y e => by have := (hL.by8 b off x y).1; omega)
 ·exact ((hb.tcs (S := fun b => b = T)).next t17' (fun k hk => .inr hk)).trans tS
theorem td_fin {g : Nat} {a : Option Addr} {len cap GL M : Nat} {w W2 W : World} {va : Option Addr} {vn vc : Nat} {Q' : List FV} (hg : FrC W GL gcells) (hGL : w.heap.size ≤ GL ∧ GL < W.heap.size) (hfr : FR (fun k => k < M) M W (.slice va vn vc) Q') (hM : w.heap.size ≤ M) (hQ : 1 ≤ Q'.length ∧ Q'.length ≤ 20) : ∃ t, TD (fun k => k < w.heap.size) W (.slice (some ⟨GL, 0, none⟩) 4 4) (.slice va vn vc) t := by
 refine ⟨⟨globs4, Q'.map (fun q : FV => q.f)⟩, fun W' hW => globs_fr (hg.tcs hGL.2 hW (by omega)), ?fs, ⟨(by decide : 1 ≤ globs4.length), (by decide : globs4.length ≤ 20)⟩, ?_, ⟨by simp; omega, by simp; omega⟩, ?_⟩
 case fs =>
  have h0 := hfr.row.row
  rcases h0.2 with ⟨-, hz⟩ | ⟨b, cap, cur, e, h3, h4, h5⟩
  ·omega
  ·obtain ⟨q1, q2, -⟩ := h5
   unfold maxLen at q2
   refine ⟨b, 0, cap, Q', e, q1, q2, rfl, fun W' hW => ?_⟩
   have hW' : Tcs (fun k => k < M) W W' := hW.mono fun k hk => by omega
   refine ⟨fun j u hu => ?_, hfr.row.st W' (hW'.mono fun k hk => .inl hk)⟩
   rw [e] at h0
   have := World.ownsRow.cells (own_tcs h0 hW' (fun k hk => hk)) (g := b) rfl j u hu
   rwa [addrO] at this
 ·intro x hx
  simp only [globs4, List.mem_cons, List.not_mem_nil, or_false] at hx
  rcases hx with rfl | rfl | rfl | rfl <;> decide
 ·intro f hf
  obtain ⟨x, hx, rfl⟩ := List.mem_map.1 hf
  exact hfr.ok x hx
end
section
open Go.RowKit
theorem flatS_set : ∀ (R : List SV) (i c : Nat) (u : Value) (x' : SV) (hi : i < R.length), c < 6 → cellsS x' = (cellsS R[i]).set c u → flatS (R.set i x') = (flatS R).set (i * 6 + c) u
 | x :: l, 0, c, u, x', _, hc, hx => by
  have h6 : (cellsS x).length = 6 := rfl
  show cellsS x' ++ flatS l = (cellsS x ++ flatS l).set (0 * 6 + c) u
  rw [List.set_append_left _ _ (by omega)]
  have : cellsS x' = (cellsS x).set c u := hx
  rw [this]
  simp
 | x :: l, i + 1, c, u, x', hi, hc, hx => by
  have h6 : (cellsS x).length = 6 := rfl
  show cellsS x ++ flatS (l.set i x') = (cellsS x ++ flatS l).set ((i + 1) * 6 + c) u
  rw [List.set_append_right _ _ (by omega), flatS_set l i c u x' (by simpa using hi) hc hx]
  congr 2
  omega
theorem flatF_set : ∀ (Q : List FV) (i c : Nat) (u : Value) (x' : FV) (hi : i < Q.length), c < 3 → cellsF x' = (cellsF Q[i]).set c u → flatF (Q.set i x') = (flatF Q).set (i * 3 + c) u
 | x :: l, 0, c, u, x', _, hc, hx => by
  have h6 : (cellsF x).length = 3 := rfl
  show cellsF x' ++ flatF l = (cellsF x ++ flatF l).set (0 * 3 + c) u
  rw [List.set_append_left _ _ (by omega)]
  have : cellsF x' = (cellsF x).set c u := hx
  rw [this]
  simp
 | x :: l, i + 1, c, u, x', hi, hc, hx => by
  have h6 : (cellsF x).length = 3 := rfl
  show cellsF x ++ flatF (l.set i x') = (cellsF x ++ flatF l).set ((i + 1) * 3 + c) u
  rw [List.set_append_right _ _ (by omega), flatF_set l i c u x' (by simpa using hi) hc hx]
  congr 2
  omega
def okS2 (R : List SV) : Prop := ∀ x ∈ R, okN x.s.e 5000 ∧ okN x.s.f 5000 ∧ x.s.name.size ≤ 100000
theorem okS.two {R : List SV} (h : okS R) : okS2 R := fun x hx => ⟨(h x hx).1.more (by omega), (h x hx).2.1.more (by omega), (h x hx).2.2⟩
structure okF2 (f : Fu) : Prop where
 nm : f.name.size ≤ 100000
 pl : f.params.length ≤ 30
 pn : ∀ p ∈ f.params, p.size ≤ 100000
 bu : f.body.length ≤ 20000
 st : ∀ s ∈ f.body, okN s.e 5000 ∧ okN s.f 5000 ∧ s.name.size ≤ 100000
theorem okFn.two {f : Fu} (h : okFn f) : okF2 f := ⟨h.nm, by have := h.pl; omega, h.pn, by have := h.bu; omega, fun s hs => ⟨(h.st s hs).1.more (by omega), (h.st s hs).2.1.more (by omega), (h.st s hs).2.2⟩⟩
structure BR (S : Nat → Prop) (B : Nat) (w : World) (v : Value) (R : List SV) : Prop where
 row : DRow 88 6 S B w v R.length (flatS R) (PtS R)
 ok : okS2 R
theorem BR.tcs {S : Nat → Prop} {B : Nat} {w w' : World} {v : Value} {R : List SV} (h : BR S B w v R) (ht : Tcs S w w') (hS : ∀ k, S k → k < B) : BR S B w' v R := ⟨h.row.tcs ht hS, h.ok⟩
theorem BR.below {S : Nat → Prop} {B : Nat} {w w' : World} {v : Value} {R : List SV} (h : BR S B w v R) (hb : Below w.heap.size w w') : BR S B w' v R := ⟨h.row.below hb, h.ok⟩
theorem BR.rng {S : Nat → Prop} {B : Nat} {w : World} {v : Value} {R : List SV} (h : BR S B w v R) : ∀ k, v.ownBlock = some k → B ≤ k ∧ k < w.heap.size := fun k hk => World.ownsRow.lt h.row.row k hk
theorem BR.shape {S : Nat → Prop} {B : Nat} {w : World} {v : Value} {R : List SV} (h : BR S B w v R) (hp : 0 < R.length) : ∃ b c, v = .slice (some ⟨b, 0, none⟩) R.length c := by
 rcases h.row.row.2 with ⟨-, hz⟩ | ⟨g, cap, cur, rfl, _⟩
 ·omega
 ·exact ⟨g, cap, rfl⟩
theorem BR.put {S : Nat → Prop} {B b n cap : Nat} {w : World} {R : List SV} (h : BR S B w (.slice (some ⟨b, 0, none⟩) n cap) R) (i c : Nat) (u : Value) (x' : SV) (hi : i < R.length) (hc : c < 6) (hx : cellsS x' = (cellsS R[i]).set c u) (hp : ∀ W, Tcs (fun k => S k ∨ k = b) w W → Nodes W x'.ve x'.s.e ∧ Nodes W x'.vf x'.s.f) (ho : okN x'.s.e 5000 ∧ okN x'.s.f 5000 ∧ x'.s.name.size ≤ 100000) :
  BR S B (w.setCell ⟨b, i * 6 + c, none⟩ u) (.slice (some ⟨b, 0, none⟩) n cap) (R.set i x') := by
 have hn : n = R.length := by
  obtain ⟨_, _, e, -⟩ := own_shape h.row.row
  simp at e
  exact e.2.1
 subst hn
 have h1 := (h.row.row.stored (i * 6 + c) u).1
 refine ⟨⟨by rw [List.length_set, flatS_set R i c u x' hi hc hx]; exact h1, fun W hW x hm => ?_⟩, fun x hm => ?_⟩
 ·have ht : Tcs (fun k => S k ∨ k = b) w W := ((Tcs.refl (fun k => S k ∨ k = b) w).setCell (p := ⟨b, i * 6 + c, none⟩) (.inr rfl) u).trans (hW.mono fun k hk => hk.imp id fun e => by simp [Value.ownBlock] at e; exact e.symm)
  rcases List.mem_or_eq_of_mem_set hm with hm | rfl
  ·exact h.row.st W (ht.mono fun k hk => hk.imp id fun e => by rw [e]; rfl) x hm
  ·exact hp W ht
 ·rcases List.mem_or_eq_of_mem_set hm with hm | rfl
  ·exact h.ok x hm
  ·exact ho
structure F2 (S : Nat → Prop) (B : Nat) (w : World) (v : Value) (Q : List FV) : Prop where
 row : DRow 61 3 S B w v Q.length (flatF Q) (PtF Q)
 ok : ∀ x ∈ Q, okF2 x.f
theorem FR.two {S : Nat → Prop} {B : Nat} {w : World} {v : Value} {Q : List FV} (h : FR S B w v Q) : F2 S B w v Q := ⟨h.row, fun x hx => (h.ok x hx).two⟩
theorem F2.tcs {S : Nat → Prop} {B : Nat} {w w' : World} {v : Value} {Q : List FV} (h : F2 S B w v Q) (ht : Tcs S w w') (hS : ∀ k, S k → k < B) : F2 S B w' v Q := ⟨h.row.tcs ht hS, h.ok⟩
theorem F2.below {S : Nat → Prop} {B : Nat} {w w' : World} {v : Value} {Q : List FV} (h : F2 S B w v Q) (hb : Below w.heap.size w w') : F2 S B w' v Q := ⟨h.row.below hb, h.ok⟩
theorem F2.less {S S' : Nat → Prop} {B : Nat} {w : World} {v : Value} {Q : List FV} (h : F2 S B w v Q) (hs : ∀ k, S' k → S k) : F2 S' B w v Q := ⟨h.row.less hs, h.ok⟩
theorem F2.rng {S : Nat → Prop} {B : Nat} {w : World} {v : Value} {Q : List FV} (h : F2 S B w v Q) : ∀ k, v.ownBlock = some k → B ≤ k ∧ k < w.heap.size := fun k hk => World.ownsRow.lt h.row.row k hk
theorem F2.funcs {S : Nat → Prop} {B : Nat} {w : World} {v : Value} {Q : List FV} (h : F2 S B w v Q) (hS : ∀ k, S k → k < B) : ∀ W, Tcs S w W → Funcs W v (Q.map (fun q : FV => q.f)) := fun W hW =>
 funcs_of (own_tcs h.row.row hW hS) (h.row.st W (hW.mono fun k hk => .inl hk))
theorem F2.put {S : Nat → Prop} {B b n cap : Nat} {w : World} {Q : List FV} (h : F2 S B w (.slice (some ⟨b, 0, none⟩) n cap) Q) (i c : Nat) (u : Value) (x' : FV) (hi : i < Q.length) (hc : c < 3) (hx : cellsF x' = (cellsF Q[i]).set c u) (hp : ∀ W, Tcs (fun k => S k ∨ k = b) w W → Strs W x'.vp x'.f.params ∧ RdS W x'.vb x'.R ∧ x'.R.map (·.s) = x'.f.body) (ho : okF2 x'.f) :
  F2 S B (w.setCell ⟨b, i * 3 + c, none⟩ u) (.slice (some ⟨b, 0, none⟩) n cap) (Q.set i x') := by
 have hn : n = Q.length := by
  obtain ⟨_, _, e, -⟩ := own_shape h.row.row
  simp at e
  exact e.2.1
 subst hn
 have h1 := (h.row.row.stored (i * 3 + c) u).1
 refine ⟨⟨by rw [List.length_set, flatF_set Q i c u x' hi hc hx]; exact h1, fun W hW x hm => ?_⟩, fun x hm => ?_⟩
 ·have ht : Tcs (fun k => S k ∨ k = b) w W := ((Tcs.refl (fun k => S k ∨ k = b) w).setCell (p := ⟨b, i * 3 + c, none⟩) (.inr rfl) u).trans (hW.mono fun k hk => hk.imp id fun e => by simp [Value.ownBlock] at e; exact e.symm)
  rcases List.mem_or_eq_of_mem_set hm with hm | rfl
  ·exact h.row.st W (ht.mono fun k hk => hk.imp id fun e => by rw [e]; rfl) x hm
  ·exact hp W ht
 ·rcases List.mem_or_eq_of_mem_set hm with hm | rfl
  ·exact h.ok x hm
  ·exact ho
theorem BR.stmts {S : Nat → Prop} {B : Nat} {w : World} {v : Value} {R : List SV} (h : BR S B w v R) (hS : ∀ k, S k → k < B) : ∀ W, Tcs S w W → Stmts W v (R.map (·.s)) := fun W hW =>
 stmts_of (own_tcs h.row.row hW hS) (h.row.st W (hW.mono fun k hk => .inl hk))
def gcl (g : Gl) : List Value := [.string g.name, .int .i64 g.size]
def gflat (gs : List Gl) : List Value := gs.flatMap gcl
theorem gflat_len (gs : List Gl) : (gflat gs).length = gs.length * 2 := by
 induction gs with
 | nil => rfl
 | cons a r ih =>
  have : (gflat (a :: r)).length = 2 + (gflat r).length := by simp [gflat, gcl]; omega
  rw [this, ih, List.length_cons]
  omega
theorem gflat_get : ∀ (gs : List Gl) (j i : Nat) (hj : j < gs.length), i < 2 → (gflat gs)[j * 2 + i]? = (gcl gs[j])[i]?
 | x :: l, 0, i, _, hi => by
  have : (gcl x).length = 2 := rfl
  show (gcl x ++ gflat l)[0 * 2 + i]? = _
  rw [List.getElem?_append_left (by omega)]
  simp
 | x :: l, j + 1, i, hj, hi => by
  have h7 : (gcl x).length = 2 := rfl
  show (gcl x ++ gflat l)[(j + 1) * 2 + i]? = _
  rw [List.getElem?_append_right (by omega)]
  have e : (j + 1) * 2 + i - (gcl x).length = j * 2 + i := by omega
  rw [e, gflat_get l j i (by simpa using hj) hi]
  simp
def GR (B : Nat) (w : World) (v : Value) (gs : List Gl) : Prop := w.ownsRow B 78 2 v gs.length (gflat gs)
theorem globs_of {B : Nat} {w : World} {v : Value} {gs : List Gl} (h : GR B w v gs) : Globs w v gs := by
 have h0 : w.ownsRow B 78 2 v gs.length (gflat gs) := h
 rcases h0.2 with ⟨rfl, hz⟩ | ⟨g, cap, cur, rfl, h3, h4, h5⟩
 ·exact ⟨none, 0, by rw [hz], by rw [hz]; exact Nat.le_refl _, by omega, fun h => by omega⟩
 ·have hc : gs.length ≤ cap ∧ cap ≤ 9223372036854775807 := by
   obtain ⟨q1, q2, -⟩ := h5
   unfold maxLen at q2
   exact ⟨q1, q2⟩
  refine ⟨some ⟨g, 0, none⟩, cap, rfl, hc.1, hc.2, fun hp' => ⟨g, 0, rfl, fun j hj => ?_⟩⟩
  have key : ∀ i, i < 2 → w.cell? ⟨g, 0 + j * 2 + i, none⟩ = (gcl gs[j])[i]? := fun i hi => by
   have hl : (gflat gs).length = gs.length * 2 := gflat_len gs
   rw [Nat.zero_add, World.ownsRow.cellAt h0 (j * 2 + i) (by omega), gflat_get gs j i hj hi]
  exact ⟨key 0 (by omega), key 1 (by omega)⟩
end
section
open Go.RowKit
structure TW (S : Nat → Prop) (w : World) (vg vf : Value) (t : Tr) : Prop where
 gs : ∀ W, Tcs S w W → Globs W vg t.globals
 fs : ∀ W, Tcs S w W → Funcs W vf t.funcs
 gl : t.globals.length ≤ 30
 gn : ∀ x ∈ t.globals, x.name.size ≤ 100000
 fl : t.funcs.length ≤ 20
 ok : ∀ f ∈ t.funcs, okF2 f
theorem TD.tw {S : Nat → Prop} {w : World} {vg vf : Value} {t : Tr} (h : TD S w vg vf t) : TW S w vg vf t := ⟨h.gs, h.funcs, by have := h.gl.2; omega, h.gn, h.fl.2, fun f hf => (h.ok f hf).two⟩
theorem TW.tcs {S : Nat → Prop} {w w' : World} {vg vf : Value} {t : Tr} (h : TW S w vg vf t) (ht : Tcs S w w') : TW S w' vg vf t := ⟨fun W hW => h.gs W (ht.trans hW), fun W hW => h.fs W (ht.trans hW), h.gl, h.gn, h.fl, h.ok⟩
theorem TW.small {S : Nat → Prop} {w : World} {vg vf : Value} {t : Tr} (h : TW S w vg vf t) : smallT t ∧ wfT t := by
 refine ⟨⟨by have := h.gl; omega, by have := h.fl; omega, fun f hf => ?_⟩, ⟨⟨by have := h.gl; omega, fun x hx => by have := h.gn x hx; omega⟩, ⟨by have := h.fl; omega, fun f hf => ?_⟩⟩⟩
 ·have k := h.ok f hf
  refine ⟨by have := k.pl; omega, by have := k.bu; omega, fun s hs => ?_⟩
  obtain ⟨h1, h2, -⟩ := k.st s hs
  exact ⟨by have := h1.1; omega, by have := h2.1; omega⟩
 ·have k := h.ok f hf
  refine ⟨by have := k.nm; omega, ⟨by have := k.pl; omega, fun p hp => by have := k.pn p hp; omega⟩, ⟨by have := k.bu; omega, fun s hs => ?_⟩⟩
  obtain ⟨h1, h2, h3⟩ := k.st s hs
  exact ⟨by omega, ⟨by have := h1.1; omega, fun n hn => by have := h1.2 n hn; omega⟩, ⟨by have := h2.1; omega, fun n hn => by have := h2.2 n hn; omega⟩⟩
theorem fr_main {M B L : Nat} {W16 : World} {nm : ByteArray} {ba : Option Addr} {bn bc : Nat} {R' : List SV} (hM : M ≤ W16.heap.size) (hn : nm.size ≤ 100000) (hr : SR B W16 (.slice ba bn bc) R' L) (hL2 : 1 ≤ R'.length ∧ L ≤ 10000) (hMB : M ≤ B) :
  FR (fun k => k < M) M (W16.alloc (.cells #[.string nm, .slice none 0 0, .slice ba bn bc] 61)) (.slice (some ⟨W16.heap.size, 0, none⟩) 1 1) [⟨⟨nm, [], R'.map (·.s)⟩, .slice none 0 0, .slice ba bn bc, R', [], []⟩] := by
 have hok : okFn ⟨nm, [], R'.map (·.s)⟩ := ⟨hn, by show (0 : Nat) ≤ 20; omega, (fun p hp => by cases hp), by show 1 ≤ (R'.map (·.s)).length; simp; omega, by show (R'.map (·.s)).length ≤ 10000; have := hr.len; simp; omega, hr.ok.body⟩
 refine ⟨⟨?_, fun W hW x hx => ?_⟩, fun x hx => by simp only [List.mem_singleton] at hx; subst hx; exact hok⟩
 ·exact World.ownsRow_lit W16 #[.string nm, .slice none 0 0, .slice ba bn bc] 1 hM (by decide) rfl
 ·simp only [List.mem_singleton] at hx
  subst hx
  have hW' : Tcs (fun b => b < B) W16 W := ((Tcs.refl (fun b => b < B) W16).alloc _).next hW fun k hk => by
   rcases hk with hk | hk
   ·exact .inl (by omega)
   ·simp only [Value.ownBlock, Option.some.injEq] at hk
    exact .inr (by omega)
  exact ⟨⟨none, 0, rfl, Nat.le_refl _, by omega, fun h => absurd h (Nat.lt_irrefl _)⟩, hr.rd W hW', rfl⟩
end
section
open Go.RowKit
def WI (g : Nat) (a : Option Addr) (len cap R2 BB N1 : Nat) (w Wx : World) (v : Value) (j : Nat) (wr : World) : Prop := (∃ R, SR BB wr v R j ∧ R.length = j) ∧ Tcs (fun k => k < N1) Wx wr ∧ (∀ k, v.ownBlock = some k → k < N1 ∨ Wx.heap.size ≤ k) ∧ Cur g a len cap wr ∧ Tcs (S0 g) w wr ∧ FrC wr R2 [.slice none 0 0, .slice none 0 0]
theorem wi_app {g : Nat} {a : Option Addr} {len cap R2 BB N1 : Nat} {w Wx wr W2 : World} {v ve : Value} {j : Nat} {kd : Int} {nm : ByteArray} {e : List Nd} (h : WI g a len cap R2 BB N1 w Wx v j wr) (hL : Lo g a len (S0 g) w.heap.size) (hB : w.heap.size ≤ BB ∧ BB ≤ N1 ∧ N1 ≤ Wx.heap.size) (hR : R2 < BB) (hj : j ≤ 5000) (hb : Below wr.heap.size wr W2) (hE : ∀ W, Tcs (fun k => k < BB ∨ v.ownBlock = some k) W2 W → Nodes W ve e) (oe : okN e 3000) (on : nm.size ≤ 100000) :
  ∃ va vn vc w3, (Builtin.append_ #[59, 59] 59 #[v, .slice (some ⟨W2.heap.size, 0, none⟩) 1 1]).run Tryz.prog (W2.alloc (.cells #[.int .i64 kd, .string nm, ve, .slice none 0 0, .int .i64 0, .int .i64 0] 88)) = .ok (.slice va vn vc) w3 ∧ WI g a len cap R2 BB N1 w Wx (.slice va vn vc) (j + 1) w3 := by
 obtain ⟨⟨R, hr, hRl⟩, ht, ho, hc, hw, hf⟩ := h
 have hs := ht.size
 have hs2 := hb.size
 have hlit := sr_lit (w := W2) (B := BB) (kd := kd) (th := 0) (el := 0) (nm := nm) (ve := ve) (e := e) (vf := .slice none 0 0) (f := []) (by omega) (fun W hW => hE W (hW.mono fun k hk => .inl hk)) (fun W _ => nodes_none W) oe (okN.nil.more (Nat.zero_le _)) on
 obtain ⟨o, hoo⟩ : ∃ o : Obj, o = .cells #[.int .i64 kd, .string nm, ve, .slice none 0 0, .int .i64 0, .int .i64 0] 88 := ⟨_, rfl⟩
 rw [← hoo] at hlit ⊢
 have hba : Below wr.heap.size wr (W2.alloc o) := hb.alloc hb.size _
 have hs3 : W2.heap.size < (W2.alloc o).heap.size := by simp
 obtain ⟨v3, w3, r3, h3, t3, f3⟩ := sr_app 59 (hr.below hba) hlit (by omega) (by omega) (fun W hW x hx => by
  simp only [List.mem_singleton] at hx
  subst hx
  exact ⟨hE W (((Tcs.refl _ W2).alloc o).trans hW), nodes_none W⟩)
 obtain ⟨va, vn, vc, rfl⟩ : ∃ x y z, v3 = .slice x y z := by obtain ⟨x, y, e⟩ := h3.shape; exact ⟨x, _, y, e⟩
 refine ⟨va, vn, vc, w3, r3, ⟨_, h3, by simp [hRl]⟩, (ht.of_below hba).next t3 ho, fun k hk => ?_, (hc.below hba).new hL t3 (fun k hk => by have := (hr.rng k hk).1; omega), (hw.of_below hba).next t3 (fun k hk => .inr (by have := (hr.rng k hk).1; omega)), (hf.below hba).tcs (by omega) t3 (fun hk => by have := (hr.rng _ hk).1; omega)⟩
 rcases f3 k hk with h | h
 ·exact ho k h
 ·exact .inr (by omega)
theorem wide_fin {g : Nat} {a : Option Addr} {len cap R2 BB L : Nat} {w w3 : World} {va : Option Addr} {vn vc : Nat} {R3 : List SV} (hL : Lo g a len (S0 g) w.heap.size) (hB : R2 = w.heap.size ∧ BB = w.heap.size + 1 ∧ BB ≤ w3.heap.size) (hr : SR BB w3 (.slice va vn vc) R3 L) (h1 : 1 ≤ R3.length ∧ L ≤ 10000) (hc : Cur g a len cap w3) (ht : Tcs (S0 g) w w3) (hf : FrC w3 R2 [.slice none 0 0, .slice none 0 0]) :
  ∃ W, W = w3.alloc (.cells #[.string ⟨#[109, 97, 105, 110]⟩, .slice none 0 0, .slice va vn vc] 61) ∧ (W.cell? ⟨R2, 0, none⟩ = some (.slice none 0 0) ∧ W.frozen? ⟨R2, 0, none⟩ = false ∧ W.cell? ⟨R2, 1, none⟩ = some (.slice none 0 0) ∧ W.frozen? ⟨R2, 1, none⟩ = false) ∧ ∃ W', W' = (W.setCell ⟨R2, 0, none⟩ (.slice none 0 0)).setCell ⟨R2, 1, none⟩ (.slice (some ⟨w3.heap.size, 0, none⟩) 1 1) ∧ (W'.cell? ⟨R2, 0, none⟩ = some (.slice none 0 0) ∧ W'.cell? ⟨R2, 1, none⟩ = some (.slice (some ⟨w3.heap.size, 0, none⟩) 1 1)) ∧ (∃ t, TW (fun k => k < w.heap.size) W' (.slice none 0 0) (.slice (some ⟨w3.heap.size, 0, none⟩) 1 1) t) ∧ Dr g a len cap (S0 g) w W' := by
 have hfr := fr_main (M := BB) (nm := ⟨#[109, 97, 105, 110]⟩) hB.2.2 (by decide) hr h1 (Nat.le_refl _)
 have hgl := hL.gl
 refine ⟨_, rfl, ?_⟩
 obtain ⟨W, hW⟩ : ∃ W, W = w3.alloc (.cells #[.string ⟨#[109, 97, 105, 110]⟩, .slice none 0 0, .slice va vn vc] 61) := ⟨_, rfl⟩
 rw [← hW] at hfr ⊢
 have hb : Below w3.heap.size w3 W := by rw [hW]; exact (Below.refl _ _).alloc (Nat.le_refl _) _
 have hfW := hf.below hb
 refine ⟨⟨(hfW 0 _ rfl).1, (hfW 0 _ rfl).2, (hfW 1 _ rfl).1, (hfW 1 _ rfl).2⟩, _, rfl, ?_⟩
 have hf2 := (hfW.set 0 (.slice none 0 0)).set 1 (.slice (some ⟨w3.heap.size, 0, none⟩) 1 1)
 have tS : Tcs (fun k => k = R2) W ((W.setCell ⟨R2, 0, none⟩ (.slice none 0 0)).setCell ⟨R2, 1, none⟩ (.slice (some ⟨w3.heap.size, 0, none⟩) 1 1)) := ((Tcs.refl (fun k => k = R2) W).setCell (p := ⟨R2, 0, none⟩) rfl _).setCell (p := ⟨R2, 1, none⟩) rfl _
 have hfn := hfr.tcs (tS.mono fun k hk => by omega) (fun k hk => hk)
 refine ⟨⟨(hf2 0 _ rfl).1, (hf2 1 _ rfl).1⟩, ⟨⟨[], [⟨⟨#[109, 97, 105, 110]⟩, [], R3.map (·.s)⟩]⟩, ?_⟩, ⟨(hc.below hb).keep tS (by omega) (fun b off x y e => by have := (hL.by8 b off x y).1; omega), (ht.of_below hb).next tS (fun k hk => .inr (by omega))⟩⟩
 exact ⟨fun W _ => ⟨none, 0, rfl, Nat.le_refl _, by omega, fun h => absurd h (Nat.lt_irrefl _)⟩, fun W hW => hfn.funcs (fun k hk => hk) W (hW.mono fun k hk => by have : k < w.heap.size := hk; omega), by show (0 : Nat) ≤ 30; omega, (fun x hx => by cases hx), by show (1 : Nat) ≤ 20; omega, fun f hf => by
  simp only [List.mem_singleton] at hf
  subst hf
  exact (hfn.ok _ (List.mem_singleton.2 rfl)).two⟩
set_option maxRecDepth 100000 in
set_option maxHeartbeats 8000000 in
theorem wide_any (g : Nat) (a : Option Addr) (len cap : Nat) (w : World) (hl : len ≤ 1048576) (hL : Lo g a len (S0 g) w.heap.size) (hc : Cur g a len cap w) :
  Calls Tryz.prog 34 #[.pointer (some ⟨g, 0, none⟩)] w fun e w' => ∃ vg vf, e = .returned (.agg #[vg, vf]) ∧ (∃ t, TW (fun k => k < w.heap.size) w' vg vf t) ∧ Dr g a len cap (S0 g) w w' := by
 have hS0 : S0 g g := rfl
 have hgw := hL.gl
 have HLo := hide hL
 obtain ⟨Wa, hWa⟩ : ∃ Wa, Wa = (w.alloc (.cells #[.slice none 0 0, .slice none 0 0] 26)).alloc (.cells #[] 88) := ⟨_, rfl⟩
 have HWa := hide hWa
 have hba : Below w.heap.size w Wa := by rw [hWa]; exact ((Below.refl _ _).alloc (Nat.le_refl _) _).alloc (by simp) _
 have hsa : Wa.heap.size = w.heap.size + 2 := by rw [hWa]; simp
 obtain ⟨R2, hR2⟩ : ∃ R2, R2 = w.heap.size := ⟨_, rfl⟩
 obtain ⟨BB, hBB⟩ : ∃ BB, BB = w.heap.size + 1 := ⟨_, rfl⟩
 have hfr : FrC Wa R2 [.slice none 0 0, .slice none 0 0] := by
  rw [hWa, hR2]
  exact (box_fr w _ _ (by simp)).below ((Below.refl _ _).alloc (Nat.le_refl _) _)
 have hsr : SR BB Wa (.slice (some ⟨BB, 0, none⟩) 0 0) [] 0 := by
  have := sr_nil (w.alloc (.cells #[.slice none 0 0, .slice none 0 0] 26)) (w.heap.size + 1) (by simp)
  simp only [World.size_alloc] at this
  rw [hWa, hBB]
  exact this
 have HR2 := hide hR2
 have HBB := hide hBB
 have Hfr := hide hfr
 have Hsr := hide hsr
 have HSa : Hid (Wa.heap.size = w.heap.size + 2) := hsa
 have HBa := hide hba
 have HCa : Hid (Cur g a len cap Wa) := hc.below hba
 clear hWa hba hsa hR2 hBB hfr hsr hc hL
 go_enter Tryz.func34, Tryz.ntmps34
 go_upto_region 2 with fail
 rw [← HWa.out, ← HBB.out, ← HR2.out]
 clear HWa
 go_wp2_with fail
 refine (below_any g a len cap (S0 g) _ _ hl hS0 HCa.out (by omega)).mono ?_
 rintro e w1 ⟨x, rfl, hx, hd1⟩
 have HD1 := hide hd1
 have hs1 : Wa.heap.size ≤ w1.heap.size := hd1.tcs.size
 have HN1 : Hid (NRow w1.heap.size (w1.alloc (.cells #[.int .i64 1, .int .i64 1, .string ⟨#[]⟩] 91)) (.slice (some ⟨w1.heap.size, 0, none⟩) 1 1) [⟨1, 1, ⟨#[]⟩⟩]) := nrow_lit w1 w1.heap.size (Nat.le_refl _) 1 1 ⟨#[]⟩
 clear hd1
 go_wp2_with fail
 go_loopw [5, 6] (fun ev i wr => ∃ j : Nat, j ≤ 11 ∧ i = .int .i64 j ∧ ∃ ns, NRow w1.heap.size wr ev ns ∧ okN ns (1 + 2 * j) ∧ Below w1.heap.size w1 wr) (fun _ i _ => 11 - (RowKit.intOf i).toNat)
 case atStart => exact ⟨0, by omega, rfl, _, HN1.out, okN.one (by decide), (Below.refl _ _).alloc (Nat.le_refl _) _⟩
 case round =>
  obtain ⟨j, hj, rfl, ns, hr, hn, hb⟩ := hrel
  have HR : Hid (NRow w1.heap.size wr u5 ns) := hr
  have HN : Hid (okN ns (1 + 2 * j)) := hn
  have HB : Hid (Below w1.heap.size w1 wr) := hb
  have hnl : ns.length ≤ 23 := Nat.le_trans hn.1 (by omega)
  clear hr hn hb HN1
  by_cases hlt : (j : Int) < 11
  ·go_wp2_with fail
   refine (join_any _ ns _ _ _ _ u5 _ (nrow_lit wr 0 (Nat.zero_le _) _ _ _).nodes (NRow.nodes (NRow.below HR.out ((Below.refl _ _).alloc (Nat.le_refl _) _))) (by simp; omega)).mono ?_
   rintro e w2 ⟨u2, rfl, hr2, hb2⟩
   have hbw : Below w1.heap.size w1 w2 := (HB.out.alloc HB.out.size _).trans (hb2.mono (by have := HB.out.size; simp; omega))
   have HE : Hid (NRow w1.heap.size w2 u2 ([⟨5, 0, ⟨#[]⟩⟩] ++ ns ++ [⟨7, 3, ⟨#[]⟩⟩]) ∧ okN ([⟨5, 0, ⟨#[]⟩⟩] ++ ns ++ [⟨7, 3, ⟨#[]⟩⟩]) (1 + 2 * (j + 1)) ∧ Below w1.heap.size w1 w2) := ⟨own_low hr2 (by have := HB.out.size; simp; omega), okN.more (((okN.one (by decide)).app HN.out).app (okN.one (by decide))) (by omega), hbw⟩
   clear hr2 hb2 hbw
   go_wp2_with fail
   go_roundw
   case rel => exact ⟨j + 1, by omega, by go_num, _, HE.out.1, HE.out.2.1, HE.out.2.2⟩
   case measure => simp [RowKit.intOf]; omega
  ·have hsx : w1.heap.size ≤ wr.heap.size := HB.out.size
   obtain ⟨ea, en, ec, he⟩ : ∃ ea en ec, u5 = .slice ea en ec := by obtain ⟨x, y, e, -⟩ := own_shape HR.out; exact ⟨x, _, y, e⟩
   subst he
   rename World => Wx
   have HE : Hid (∀ W, Tcs (fun k => k < w1.heap.size) Wx W → Nodes W (.slice ea en ec) ns) := nrow_st HR.out (Nat.le_refl _)
   have HOn : Hid (okN ns 3000) := HN.out.more (by omega)
   have tx : Tcs (S0 g) Wa Wx := HD1.out.tcs.next (HB.out.tcs (S := fun _ => False)) (fun k hk => hk.elim)
   have HTx : Hid (Tcs (S0 g) w Wx) := (HBa.out.tcs (S := S0 g)).trans tx
   have HCx : Hid (Cur g a len cap Wx) := HD1.out.cur.below HB.out
   have HSx : Hid (SR BB Wx (.slice (some ⟨BB, 0, none⟩) 0 0) [] 0) := Hsr.out.tcs tx (fun k hk => by have e : k = g := hk; have := HBB.out; omega)
   have HFx : Hid (FrC Wx R2 [.slice none 0 0, .slice none 0 0]) := Hfr.out.tcs (by have := HR2.out; have := HSa.out; omega) tx (fun e => by have e : R2 = g := e; have := HR2.out; omega)
   clear tx
   go_wp2_with fail
   have HWI : Hid (WI g a len cap R2 BB w1.heap.size w Wx (.slice (some ⟨BB, 0, none⟩) 0 0) 0 Wx) := ⟨⟨[], HSx.out, rfl⟩, Tcs.refl _ _, fun k hk => by
    simp only [Value.ownBlock, Option.some.injEq] at hk
    have := HBB.out
    have := HSa.out
    exact .inl (by omega), HCx.out, HTx.out, HFx.out⟩
   have hB3 : w.heap.size ≤ BB ∧ BB ≤ w1.heap.size ∧ w1.heap.size ≤ Wx.heap.size := by have := HBB.out; have := HSa.out; omega
   have hRB : R2 < BB := by have := HBB.out; have := HR2.out; omega
   clear HSx HTx HCx HR HN HB HD1 Hsr
   go_loopw [3, 7] (fun ov i wr => ∃ j : Nat, (j : Int) ≤ 494 + x ∧ i = .int .i64 j ∧ ∃ oa on oc, ov = .slice oa on oc ∧ WI g a len cap R2 BB w1.heap.size w Wx ov j wr) (fun _ i _ => (494 + x).toNat - (RowKit.intOf i).toNat)
   case atStart => exact ⟨0, by omega, rfl, _, _, _, rfl, HWI.out⟩
   case round =>
    obtain ⟨j, hj, rfl, oa, on, oc, rfl, hwi⟩ := hrel
    have HI := hide hwi
    have hj5 : j ≤ 5000 := by omega
    by_cases hlt : (j : Int) < 494 + x
    ·have hsz : (tx (Lib.decDigits j)).size ≤ 6000 := by
      rw [tx_size]
      have := dec_len j j (Nat.le_refl _)
      omega
     have HDg : Hid (∀ W : World, Calls Tryz.prog 44 #[.int .i64 j] W fun e w' => e = .returned (.string (tx (Lib.decDigits j))) ∧ Below W.heap.size W w') := fun W => digN_any j j (Nat.le_refl _) (by omega) W
     generalize tx (Lib.decDigits j) = A at hsz HDg
     have hszI : ((A.size : Nat) : Int) ≤ 6000 := by omega
     clear hwi HWI HE HOn
     go_wp2_with fail
     refine (HDg.out _).mono ?_
     rintro e w7 ⟨rfl, hb7⟩
     have hsA : ¬ 9223372036854775807 < 1 + A.size := by omega
     have hwi := HI.out
     have hr7 := nrow_lit w7 wr.heap.size hb7.size 1 j ⟨#[]⟩
     have hs7 : wr.heap.size ≤ w7.heap.size := hb7.size
     obtain ⟨va, vn, vc, w3, r3, h3⟩ := wi_app (kd := 1) (nm := ⟨#[119]⟩ ++ A) (e := [⟨1, j, ⟨#[]⟩⟩]) (ve := .slice (some ⟨w7.heap.size, 0, none⟩) 1 1) hwi HLo.out hB3 hRB hj5 (hb7.alloc hb7.size (.cells #[.int .i64 1, .int .i64 j, .string ⟨#[]⟩] 91)) (fun W hW => nrow_st hr7 (Nat.le_refl _) W (hW.mono fun k hk => by
      obtain ⟨⟨R, hr, -⟩, ht, -⟩ := hwi
      have := ht.size
      rcases hk with h | h
      ·omega
      ·exact (hr.rng k h).2)) ((okN.one (by decide)).e3 (by omega)) (by rw [cat_size]; have : (⟨#[119]⟩ : ByteArray).size = 1 := rfl; omega)
     simp only [World.size_alloc] at r3
     have Hr3 := hide r3
     have H3 := hide h3
     clear r3 h3 hr7 hwi hb7 HI
     go_wp2_with (at_builtin; refine wpList_appG rfl _ _ _ rfl _ _ _ _ rfl rfl Hr3.out ?_)
     go_roundw
     case rel => exact ⟨j + 1, by omega, by go_num, _, _, _, rfl, H3.out⟩
     case measure => simp [RowKit.intOf]; omega
    ·clear HWI
     have hsw : Wx.heap.size ≤ wr.heap.size := hwi.2.1.size
     obtain ⟨va, vn, vc, w3, r3, h3⟩ := wi_app (kd := 7) (nm := ⟨#[]⟩) (e := ns) (ve := .slice ea en ec) hwi HLo.out hB3 hRB hj5 (Below.refl _ _) (fun W hW => HE.out W (hwi.2.1.next hW fun k hk => by
      rcases hk with h | h
      ·exact .inl (by omega)
      ·exact hwi.2.2.1 k h)) HOn.out (by decide)
     obtain ⟨⟨R3, hr3, hl3⟩, t3, -, hc3, tw3, hf3⟩ := h3
     have Hr3 := hide r3
     have HSR := hide hr3
     have HC3 := hide hc3
     have HT3 := hide tw3
     clear r3 hr3 hc3 tw3 hwi HI HE HOn
     obtain ⟨W4, hW4, ⟨c0, z0, c1, z1⟩, W5, hW5, e5, ht5, hd5⟩ := wide_fin HLo.out ⟨HR2.out, HBB.out, (by have := hB3; have := t3.size; omega)⟩ HSR.out ⟨by omega, by omega⟩ HC3.out HT3.out hf3
     have HW4 := hide hW4
     have HW5 := hide hW5
     have H5 := hide (And.intro e5 (And.intro ht5 hd5))
     rw [hW4] at c0 z0 c1 z1
     clear hW4 hW5 e5 ht5 hd5 t3 hf3 HSR HC3 HT3
     go_upto_region 13 with (at_builtin; refine wpList_appG rfl _ _ _ rfl _ _ _ _ rfl rfl Hr3.out ?_)
     clear Hr3
     go_wp2_with fail
     rw [← HW4.out, ← HW5.out]
     refine bodyPost_ret (by simp [results, Tryz.results34, go_sem, H5.out.1.1, H5.out.1.2]; try rfl) rfl ?_
     exact ⟨_, _, rfl, H5.out.2.1, H5.out.2.2⟩
end
section
open Go.RowKit
theorem own_not {T : TypeId} {sz B n : Nat} {S : Nat → Prop} {w w' : World} {v : Value} {xs : List Value} (h : w.ownsRow B T sz v n xs) (ht : Tcs S w w') (hS : ∀ k, v.ownBlock = some k → ¬ S k) : w'.ownsRow B T sz v n xs := by
 obtain ⟨hx, h | ⟨g, cap, cur, rfl, h1, h2, h3⟩⟩ := h
 ·exact ⟨hx, .inl h⟩
 ·exact ⟨hx, .inr ⟨g, cap, cur, rfl, h1, (ht.block g (Array.getElem?_eq_some_iff.1 h2).1 (hS g rfl)).trans h2, h3⟩⟩
theorem DRow.past {T : TypeId} {sz B n : Nat} {S S' : Nat → Prop} {w w' : World} {v : Value} {xs : List Value} {P : World → Prop} (h : DRow T sz S B w v n xs P) (ht : Tcs S' w w') (hs : ∀ k, S' k → S k) (hn : ∀ k, v.ownBlock = some k → ¬ S' k) : DRow T sz S B w' v n xs P :=
 ⟨own_not h.row ht hn, fun W hW => h.st W ((ht.mono fun k hk => .inl (hs k hk)).trans hW)⟩
structure CP (g M : Nat) (a : Option Addr) (len cap O R4 N fl : Nat) (w W : World) (vb vg : Value) (bF cF : Nat) (gs : List Gl) (Q : List FV) (R : List SV) : Prop where
 box : FrC W O [vg, .slice (some ⟨bF, 0, none⟩) fl cF]
 res : FrC W R4 [.slice none 0 0, .slice none 0 0]
 gr : GR N W vg gs
 fr : F2 (fun k => k < M ∨ k = R4) N W (.slice (some ⟨bF, 0, none⟩) fl cF) Q
 br : BR (fun k => k < M ∨ k = R4 ∨ k = bF) N W vb R
 ln : Q.length = fl ∧ fl ≤ 20 ∧ gs.length ≤ 30 ∧ R.length ≤ 20000
 gn : ∀ x ∈ gs, x.name.size ≤ 100000
 cur : Cur g a len cap W
 tcs : Tcs (S0 g) w W
 ne : O ≠ bF ∧ O ≠ R4 ∧ (∀ k, vg.ownBlock = some k → k ≠ bF) ∧ (∀ k, vb.ownBlock = some k → k ≠ bF)
 lo : (g < M ∧ M ≤ w.heap.size) ∧ w.heap.size ≤ R4 ∧ R4 < N ∧ w.heap.size ≤ O
theorem spoil_fin {g M : Nat} {a : Option Addr} {len cap O R4 N fl : Nat} {w W : World} {vb vg : Value} {bF cF : Nat} {gs : List Gl} {Q : List FV} {R : List SV} (h : CP g M a len cap O R4 N fl w W vb vg bF cF gs Q R) (hL : Lo g a len (S0 g) w.heap.size) (f : Nat) (hf : f < fl) :
  (W.cell? ⟨O, 1, none⟩ = some (.slice (some ⟨bF, 0, none⟩) fl cF) ∧ (∃ old, W.cell? ⟨bF, f * 3 + 2, none⟩ = some old) ∧ W.frozen? ⟨bF, f * 3 + 2, none⟩ = false) ∧ ∃ W1, W1 = W.setCell ⟨bF, f * 3 + 2, none⟩ vb ∧ FrC W1 O [vg, .slice (some ⟨bF, 0, none⟩) fl cF] ∧ FrC W1 R4 [.slice none 0 0, .slice none 0 0] ∧ ∃ W2, W2 = (W1.setCell ⟨R4, 0, none⟩ vg).setCell ⟨R4, 1, none⟩ (.slice (some ⟨bF, 0, none⟩) fl cF) ∧ FrC W2 R4 [vg, .slice (some ⟨bF, 0, none⟩) fl cF] ∧ (∃ t, TW (fun k => k < M) W2 vg (.slice (some ⟨bF, 0, none⟩) fl cF) t) ∧ Dr g a len cap (S0 g) w W2 := by
 obtain ⟨hQl, hfl, hgs, hRl⟩ := h.ln
 obtain ⟨n1, n2, n3, n4⟩ := h.ne
 obtain ⟨l0, l1, l2, l3⟩ := h.lo
 have hgl := hL.gl
 have hrg := h.fr.rng bF rfl
 have hfQ : f < Q.length := by omega
 have hrow : W.ownsRow N 61 3 (.slice (some ⟨bF, 0, none⟩) fl cF) fl (flatF Q) := by have := h.fr.row.row; rw [hQl] at this; exact this
 have hfl3 : (flatF Q).length = Q.length * 3 := flatF_len Q
 refine ⟨⟨(h.box 1 _ rfl).1, ⟨(flatF Q)[f * 3 + 2]'(by omega), ?_⟩, World.ownsRow.frozenAt hrow _⟩, _, rfl, ?_⟩
 ·rw [World.ownsRow.cellAt hrow (f * 3 + 2) (by omega)]
  exact List.getElem?_eq_getElem _
 obtain ⟨W1, hW1⟩ : ∃ W1, W1 = W.setCell ⟨bF, f * 3 + 2, none⟩ vb := ⟨_, rfl⟩
 have t1 : Tcs (fun k => k = bF) W W1 := by rw [hW1]; exact (Tcs.refl (fun k => k = bF) W).setCell (p := ⟨bF, f * 3 + 2, none⟩) rfl _
 have hOl : O < W.heap.size := World.block_lt_of_cell? _ _ (h.box 0 _ rfl).1
 have hRl4 : R4 < W.heap.size := World.block_lt_of_cell? _ _ (h.res 0 _ rfl).1
 have hO1 := h.box.tcs hOl t1 (fun e => n1 e)
 have hR1 := h.res.tcs hRl4 t1 (fun e => by have e : R4 = bF := e; omega)
 have hp : ∀ W', Tcs (fun k => (k < M ∨ k = R4) ∨ k = bF) W W' → Strs W' Q[f].vp Q[f].f.params ∧ RdS W' vb R ∧ R.map (·.s) = R.map (·.s) := fun W' hW' => by
  refine ⟨(h.fr.row.st W' (hW'.mono fun k hk => hk.imp id fun e => by rw [e]; rfl) Q[f] (List.getElem_mem hfQ)).1, rd_of (B := N) (own_not h.br.row.row hW' fun k hk hs => ?_) (h.br.row.st W' (hW'.mono fun k hk => .inl ?_)), rfl⟩
  ·have := (h.br.rng k hk).1
   have := n4 k hk
   rcases hs with (e | e) | e <;> omega
  ·rcases hk with (e | e) | e
   ·exact .inl e
   ·exact .inr (.inl e)
   ·exact .inr (.inr e)
 have ho : okF2 ⟨Q[f].f.name, Q[f].f.params, R.map (·.s)⟩ := by
  have k := h.fr.ok Q[f] (List.getElem_mem hfQ)
  exact ⟨k.nm, k.pl, k.pn, by show (R.map (·.s)).length ≤ 20000; simpa using hRl, fun s hs => by obtain ⟨x, hx, rfl⟩ := List.mem_map.1 hs; exact h.br.ok x hx⟩
 have hF1 := h.fr.put f 2 vb ⟨⟨Q[f].f.name, Q[f].f.params, R.map (·.s)⟩, Q[f].vp, vb, R, [], []⟩ hfQ (by omega) rfl hp ho
 rw [← hW1] at hF1 ⊢
 refine ⟨hO1, hR1, _, rfl, ?_⟩
 obtain ⟨W2, hW2⟩ : ∃ W2, W2 = (W1.setCell ⟨R4, 0, none⟩ vg).setCell ⟨R4, 1, none⟩ (.slice (some ⟨bF, 0, none⟩) fl cF) := ⟨_, rfl⟩
 have t2 : Tcs (fun k => k = R4) W1 W2 := by rw [hW2]; exact ((Tcs.refl (fun k => k = R4) W1).setCell (p := ⟨R4, 0, none⟩) rfl _).setCell (p := ⟨R4, 1, none⟩) rfl _
 have hR2 : FrC W2 R4 [vg, .slice (some ⟨bF, 0, none⟩) fl cF] := by rw [hW2]; exact (hR1.set 0 _).set 1 _
 have hG0 : W.ownsRow N 78 2 vg gs.length (gflat gs) := h.gr
 have hG2 : GR N W2 vg gs := own_not (own_not hG0 t1 (fun k hk e => n3 k hk e)) t2 (fun k hk e => by have := (World.ownsRow.lt hG0 k hk).1; have e : k = R4 := e; omega)
 have hF2 := hF1.tcs (t2.mono fun k hk => .inr hk) (fun k hk => by rcases hk with e | e <;> omega)
 rw [← hW2]
 refine ⟨hR2, ⟨⟨gs, _⟩, fun W' hW' => globs_of (own_tcs hG2 hW' fun k hk => by have : k < M := hk; omega), fun W' hW' => hF2.funcs (fun k hk => by rcases hk with e | e <;> omega) W' (hW'.mono fun k hk => .inl hk), hgs, h.gn, by simp; omega, fun x hx => ?_⟩, ⟨?_, ?_⟩⟩
 ·obtain ⟨q, hq, rfl⟩ := List.mem_map.1 hx
  exact hF2.ok q hq
 ·exact (h.cur.new hL t1 (fun k hk => by omega)).new hL t2 (fun k hk => by omega)
 ·exact (h.tcs.next t1 (fun k hk => .inr (by omega))).next t2 (fun k hk => .inr (by omega))
end
end Go.Proofs.YtjhmgjimppflhaaGreatDoor
