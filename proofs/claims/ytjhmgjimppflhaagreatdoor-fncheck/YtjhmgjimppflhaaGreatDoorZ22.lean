import Derived.Test.YtjhmgjimppflhaaGreatDoorZ21
import Derived.Deep.RegionHeldLaw
set_option linter.unusedSectionVars false
variable [Inhabited Go.Proofs.YtjhmgjimppflhaaGreatDoor.Pick]
namespace Go.Proofs.YtjhmgjimppflhaaGreatDoor
set_option linter.unusedVariables false
set_option linter.unusedSimpArgs false
set_option maxRecDepth 100000
set_option maxHeartbeats 16000000
section
open Go.RowKit
theorem StP.from {g : Nat} {a : Option Addr} {len cap q : Nat} {S : Nat → Prop} {K L m : Nat} {w w1 w' : World} {v : Value} (h : StP g a len cap q S K L m w1 v w') (ht : Tcs (Sq g q) w w1) : StP g a len cap q S K L m w v w' := by
  obtain ⟨R, G', h1, h2, h3, h4⟩ := h
  exact ⟨R, G', h1.low ht.size, h2, h3, ht.trans h4⟩
theorem GS.k0 {g : Nat} {a : Option Addr} {len cap q : Nat} {S : Nat → Prop} {w : World} {G : Gn} {K : Nat} (h : GS g a len cap q S w G K) : ∀ k, Sq g q k → k < w.heap.size := fun k hk => h.lo.s k (h.sqs k hk)
theorem GS.cs {g : Nat} {a : Option Addr} {len cap q : Nat} {S : Nat → Prop} {w : World} {G : Gn} {K : Nat} (h : GS g a len cap q S w G K) : ∃ a c, G.vc = .slice a G.cs.length c := by
  obtain ⟨a, c, e, -⟩ := h.ok.c w (Tcs.refl _ _)
  exact ⟨a, c, e⟩
set_option maxRecDepth 100000 in
set_option maxHeartbeats 16000000 in
theorem stmt_step (g : Nat) (a : Option Addr) (len cap q : Nat) (hl : len ≤ 1048576) (d : Nat) (hd : d ≤ 4) (hX : ∀ d', d = d' + 1 → StC g a len cap q d') : StC g a len cap q d := by
  intro z S G K w hz h hK
  have hdb := dpt_le hd
  obtain ⟨L, hL⟩ : ∃ L, L = dpt d := ⟨_, rfl⟩
  have HLd : Hid (L = dpt d) := hL
  have HX : Hid (∀ d', d = d' + 1 → StC g a len cap q d') := hX
  rw [← hL] at hdb hK ⊢
  have HG : Hid (GS g a len cap q S w G K) := h
  have HZ : Hid (z = d) := hz
  have hzb : 0 ≤ z ∧ z ≤ 4 := by omega
  have hS0 : S0 g g := rfl
  clear hX hL h hz
  go_enter Tryz.func76, Tryz.ntmps76
  go_wp2_with fail
  refine (below_any g a len cap (S0 g) _ _ hl hS0 HG.out.cur (by omega)).mono ?_
  rintro e w1 ⟨k, rfl, hk, hd1⟩
  have HG1 : Hid (GS g a len cap q S w1 G K) := HG.out.dr hd1
  have HT1 : Hid (Tcs (Sq g q) w w1) := hd1.tcs.mono s0q
  have hs1 : w.heap.size ≤ w1.heap.size := hd1.tcs.size
  have x0 := HG1.out.box.c0
  have x1 := HG1.out.box.c1
  have x2 := HG1.out.box.c2
  have x3 := HG1.out.box.c3
  have x4 := HG1.out.box.c4
  clear hd1
  have hk14 : (k = 0 ∨ k = 1) ∨ (k = 2 ∨ k = 3) ∨ (k = 4 ∨ k = 5) ∨ (k = 6 ∨ k = 7) ∨ k = 8 ∨ k = 9 ∨ k = 10 ∨ (k = 11 ∨ k = 12) ∨ k = 13 := by omega
  rcases hk14 with hk14 | hk14 | hk14 | hk14 | rfl | rfl | rfl | hk14 | rfl
  · rcases hk14 with rfl | rfl
    all_goals (
      go_wp2_with fail
      refine (whole_any g a len cap (S0 g) G K w1 hl HG1.out.lo0 HG1.out.cur HG1.out.ok0 (by omega)).mono ?_
      rintro e w2 ⟨u2, e2, rfl, hr2, hn2, hd2⟩
      obtain ⟨a2, c2, rfl, -⟩ := own_shape hr2
      have HG2 : Hid (GS g a len cap q S w2 G K) := HG1.out.dr hd2
      have HT2 : Hid (Tcs (Sq g q) w w2) := HT1.out.trans (hd2.tcs.mono s0q)
      have HN2 : Hid (∀ W, Tcs (fun k => k < w.heap.size) w2 W → Nodes W (.slice a2 e2.length c2) e2) := nrow_st hr2 HT1.out.size
      have HO2 : Hid (okN e2 3000) := hn2.e3 (by omega)
      generalize e2.length = l2 at HN2 ⊢
      clear hr2 hn2 hd2 x0 x1 x2 x3 x4
      go_wp2_with fail
      refine (newName_any g a len cap q S G K w2 HG2.out (by omega)).mono ?_
      rintro e w3 ⟨nm, rfl, hn3, hg3, ht3⟩
      have HNm : Hid (nm.size ≤ 100000) := hn3
      have hsl : G.ss.length ≤ K := HG.out.ok.sl
      obtain ⟨va1, wa1, xa, xn, xc, wa2, ra1, ra2, oa, ba⟩ := sc_app w3 G.vs G.ss nm (hg3.ok.s w3 (Tcs.refl _ _)) (by omega) 58
      have hg5 := scope_set hg3 ba oa HG.out.ok.ns.2.1 hn3 (by omega)
      have c2' : w3.cell? ⟨q, 2, none⟩ = some G.vs := hg3.box.c2
      have c2a : (w3.alloc (.cells #[] 9)).cell? ⟨q, 2, none⟩ = some G.vs := (hg3.alloc _).box.c2
      have ha2 := (hg3.below ba).box
      have d2 : wa2.cell? ⟨q, 2, none⟩ = some G.vs := ha2.c2
      have f2 : wa2.frozen? ⟨q, 2, none⟩ = false := ha2.fz 2
      obtain ⟨W5, hW5⟩ : ∃ W5, W5 = wa2.setCell ⟨q, 2, none⟩ (.slice xa xn xc) := ⟨_, rfl⟩
      have HW5 : Hid (W5 = wa2.setCell ⟨q, 2, none⟩ (.slice xa xn xc)) := hW5
      have ht25 : Tcs (Sq g q) w2 W5 := by rw [hW5]; exact (ht3.of_below ba).trans (set_sq wa2 (.slice xa xn xc))
      rw [← hW5] at hg5
      have HF : Hid (StP g a len cap q S K L 1 w (.slice (some ⟨W5.heap.size, 0, none⟩) 1 1) (W5.alloc (.cells #[.int .i64 1, .string nm, .slice a2 l2 c2, .slice none 0 0, .int .i64 0, .int .i64 0] 88))) := one_fin (L := L) 1 0 0 nm (hg5.more (by omega)) (HT2.out.trans ht25) (fun W hW => HN2.out W ((ht25.mono HG.out.k0).trans hW)) (fun W _ => nodes_none W) HO2.out (okN.nil.more (Nat.zero_le _)) HNm.out (by omega)
      have Hra1 : Hid _ := ra1
      have Hra2 : Hid _ := ra2
      clear hn3 hg3 ht3 oa hg5 ha2 ra1 ra2 ba ht25 hW5
      generalize G.vs = gvs at c2' c2a d2 Hra1
      go_upto_region 8 with (at_builtin; first
        | refine wpList_appG rfl (.tmp 32) (.tmp 36) _ rfl _ _ _ _ rfl rfl Hra1.out ?_
        | refine wpList_appG rfl (.tmp 37) (.tmp 39) _ rfl _ _ _ _ rfl rfl Hra2.out ?_)
      rw [← HW5.out]
      clear c2' c2a d2 f2 HW5 Hra1 Hra2
      go_wp2_with fail
      go_ret
      exact ⟨_, rfl, HF.out⟩)
  · rcases hk14 with rfl | rfl
    all_goals (
      go_wp2_with fail
      refine (set_any g a len cap q hl S G K L (by omega) w1 HG1.out (by omega)).mono ?_
      rintro e w2 ⟨v, rfl, hst⟩
      have HF : Hid (StP g a len cap q S K L 1 w v w2) := hst.from HT1.out
      clear hst
      go_wp2_with fail
      go_ret
      exact ⟨_, rfl, HF.out⟩)
  · rcases hk14 with rfl | rfl
    all_goals (
      go_wp2_with fail
      refine (expr_any g a len cap (S0 g) hl 2 (by omega) 2 G K w1 rfl HG1.out.lo0 HG1.out.cur HG1.out.ok0 (by omega)).mono ?_
      rintro e w2 ⟨u2, e2, rfl, hr2, hn2, hd2⟩
      have HG2 : Hid (GS g a len cap q S w2 G K) := HG1.out.dr hd2
      have HT2 : Hid (Tcs (Sq g q) w w2) := HT1.out.trans (hd2.tcs.mono s0q)
      have hx57 : xpt 2 = 57 := rfl
      have HN2 : Hid (Nodes w2 u2 e2) := NRow.nodes hr2
      have HO2 : Hid (okN e2 57) := hn2
      have hl2 : e2.length ≤ 57 := hn2.1
      clear hr2 hn2 hd2 x0 x1 x2 x3 x4 hx57
      go_wp2_with fail
      refine (join_any e2 _ _ _ _ u2 _ _ (HN2.out.below ((Below.refl _ _).alloc (Nat.le_refl _) _)) (nrow_lit w2 0 (Nat.zero_le _) _ _ _).nodes (by simp; omega)).mono ?_
      rintro e w3 ⟨u3, rfl, hr3, hb3⟩
      have hb3' := ((Below.refl w2.heap.size w2).alloc (Nat.le_refl _) (.cells #[.int .i64 1, .int .i64 7, .string ⟨#[]⟩] 91)).trans (hb3.mono (by simp))
      obtain ⟨a3, n3, c3', rfl⟩ : ∃ x y z, u3 = .slice x y z := by obtain ⟨x, y, e, -⟩ := own_shape hr3; exact ⟨x, _, y, e⟩
      have HG3 : Hid (GS g a len cap q S w3 G K) := HG2.out.below hb3'
      have HT3 : Hid (Tcs (Sq g q) w w3) := HT2.out.of_below hb3'
      have HE3 : Hid (∀ W, Tcs (fun k => k < w.heap.size) w3 W → Nodes W (.slice a3 n3 c3') (e2 ++ [⟨1, 7, ⟨#[]⟩⟩] ++ [⟨7, 13, ⟨#[]⟩⟩])) := nrow_st hr3 (Nat.le_trans HT2.out.size (by simp))
      have x0 := HG3.out.box.c0
      have x1 := HG3.out.box.c1
      have x2 := HG3.out.box.c2
      have x3 := HG3.out.box.c3
      have x4 := HG3.out.box.c4
      clear hr3 hb3 hb3' HN2
      go_wp2_with fail
      refine (whole_any g a len cap (S0 g) G K w3 hl HG3.out.lo0 HG3.out.cur HG3.out.ok0 (by omega)).mono ?_
      rintro e w5 ⟨u5, e5, rfl, hr5, hn5, hd5⟩
      obtain ⟨a5, c5, rfl, -⟩ := own_shape hr5
      have HF : Hid (StP g a len cap q S K L 1 w (.slice (some ⟨w5.heap.size, 0, none⟩) 1 1) (w5.alloc (.cells #[.int .i64 3, .string ⟨#[97]⟩, .slice a3 n3 c3', .slice a5 e5.length c5, .int .i64 0, .int .i64 0] 88))) := one_fin (L := L) 3 0 0 ⟨#[97]⟩ ((HG3.out.dr hd5).more (Nat.le_add_right _ _)) (HT3.out.trans (hd5.tcs.mono s0q)) (fun W hW => HE3.out W (((hd5.tcs.mono s0q).mono HG.out.k0).trans hW)) (nrow_st hr5 HT3.out.size) (okN.more ((HO2.out.app (okN.one (by decide))).app (okN.one (by decide))) (by omega)) (hn5.e3 (by omega)) (by decide) (by omega)
      clear hr5 hn5 hd5 x0 x1 x2 x3 x4
      generalize e5.length = l5 at HF ⊢
      go_wp2_with fail
      go_ret
      exact ⟨_, rfl, HF.out⟩)
  · rcases hk14 with rfl | rfl
    all_goals (
      go_wp2_with fail
      refine (whole_any g a len cap (S0 g) G K w1 hl HG1.out.lo0 HG1.out.cur HG1.out.ok0 (by omega)).mono ?_
      rintro e w5 ⟨u5, e5, rfl, hr5, hn5, hd5⟩
      obtain ⟨a5, c5, rfl, -⟩ := own_shape hr5
      have HF : Hid (StP g a len cap q S K L 1 w (.slice (some ⟨w5.heap.size, 0, none⟩) 1 1) (w5.alloc (.cells #[.int .i64 7, .string ⟨#[]⟩, .slice a5 e5.length c5, .slice none 0 0, .int .i64 0, .int .i64 0] 88))) := one_fin (L := L) 7 0 0 ⟨#[]⟩ ((HG1.out.dr hd5).more (Nat.le_add_right _ _)) (HT1.out.trans (hd5.tcs.mono s0q)) (nrow_st hr5 HT1.out.size) (fun W _ => nodes_none W) (hn5.e3 (by omega)) (okN.nil.more (Nat.zero_le _)) (by decide) (by omega)
      clear hr5 hn5 hd5 x0 x1 x2 x3 x4
      generalize e5.length = l5 at HF ⊢
      go_wp2_with fail
      go_ret
      exact ⟨_, rfl, HF.out⟩)
  · go_wp2_with fail
    refine (once_any g a len cap (S0 g) _ _ hl hS0 HG1.out.cur (by omega)).mono ?_
    rintro e w2 ⟨b2, rfl, hd2⟩
    have HG2 : Hid (GS g a len cap q S w2 G K) := HG1.out.dr hd2
    have HT2 : Hid (Tcs (Sq g q) w w2) := HT1.out.trans (hd2.tcs.mono s0q)
    clear hd2 x0 x1 x2 x3 x4 HG1 HT1 hs1
    generalize w2 = w1 at *
    have HG1 : Hid (GS g a len cap q S w1 G K) := HG2.out
    have HT1 : Hid (Tcs (Sq g q) w w1) := HT2.out
    clear HG2 HT2
    have x0 := HG1.out.box.c0
    have x1 := HG1.out.box.c1
    have x2 := HG1.out.box.c2
    have x3 := HG1.out.box.c3
    have x4 := HG1.out.box.c4
    cases b2
    · go_wp2_with fail
      refine (leaf_any g a len cap (S0 g) G K w1 hl HG1.out.lo0 HG1.out.cur HG1.out.ok0 (by omega)).mono ?_
      rintro e w5 ⟨u5, e5, rfl, hr5, hn5, hd5⟩
      obtain ⟨a5, c5, rfl, -⟩ := own_shape hr5
      have HF : Hid (StP g a len cap q S K L 1 w (.slice (some ⟨w5.heap.size, 0, none⟩) 1 1) (w5.alloc (.cells #[.int .i64 7, .string ⟨#[]⟩, .slice a5 e5.length c5, .slice none 0 0, .int .i64 0, .int .i64 0] 88))) := one_fin (L := L) 7 0 0 ⟨#[]⟩ ((HG1.out.dr hd5).more (Nat.le_add_right _ _)) (HT1.out.trans (hd5.tcs.mono s0q)) (nrow_st hr5 HT1.out.size) (fun W _ => nodes_none W) (hn5.e3 (by omega)) (okN.nil.more (Nat.zero_le _)) (by decide) (by omega)
      clear hr5 hn5 hd5 x0 x1 x2 x3 x4
      generalize e5.length = l5 at HF ⊢
      go_wp2_with fail
      go_ret
      exact ⟨_, rfl, HF.out⟩
    · go_wp2_with fail
      refine (whole_any g a len cap (S0 g) G K w1 hl HG1.out.lo0 HG1.out.cur HG1.out.ok0 (by omega)).mono ?_
      rintro e w5 ⟨u5, e5, rfl, hr5, hn5, hd5⟩
      obtain ⟨a5, c5, rfl, -⟩ := own_shape hr5
      have HF : Hid (StP g a len cap q S K L 1 w (.slice (some ⟨w5.heap.size, 0, none⟩) 1 1) (w5.alloc (.cells #[.int .i64 6, .string ⟨#[]⟩, .slice a5 e5.length c5, .slice none 0 0, .int .i64 0, .int .i64 0] 88))) := one_fin (L := L) 6 0 0 ⟨#[]⟩ ((HG1.out.dr hd5).more (Nat.le_add_right _ _)) (HT1.out.trans (hd5.tcs.mono s0q)) (nrow_st hr5 HT1.out.size) (fun W _ => nodes_none W) (hn5.e3 (by omega)) (okN.nil.more (Nat.zero_le _)) (by decide) (by omega)
      clear hr5 hn5 hd5 x0 x1 x2 x3 x4
      generalize e5.length = l5 at HF ⊢
      go_wp2_with fail
      go_ret
      exact ⟨_, rfl, HF.out⟩
  · obtain ⟨ac, cc, hvc⟩ := HG1.out.cs
    by_cases hcs : 0 < G.cs.length
    · have hc10 : G.cs.length ≤ 10 := HG1.out.ok.c4
      have hpc : G.ps.length = G.cs.length := HG1.out.ok.cp
      obtain ⟨cl, hcl⟩ : ∃ cl, cl = G.cs.length := ⟨_, rfl⟩
      have hcl1 : 0 < cl ∧ cl ≤ 10 := by omega
      have hcl2 : (0 : Int) < (cl : Int) := by omega
      rw [hvc, ← hcl] at x0
      have HVC : Hid (G.vc = .slice ac cl cc) := by rw [hcl]; exact hvc
      have HCL : Hid (cl = G.cs.length ∧ cl = G.ps.length) := ⟨hcl, by omega⟩
      clear hvc hpc hcs hc10 hcl
      go_wp2_with fail
      refine (below_any g a len cap (S0 g) _ _ hl hS0 HG1.out.cur (by omega)).mono ?_
      rintro e w2 ⟨fz, rfl, hf, hd2⟩
      obtain ⟨f, rfl⟩ : ∃ f : Nat, fz = f := ⟨fz.toNat, by omega⟩
      have hfc : f < G.cs.length := by have := HCL.out.1; omega
      have hfp : f < G.ps.length := by have := HCL.out.2; omega
      have HG2 : Hid (GS g a len cap q S w2 G K) := HG1.out.dr hd2
      have HT2 : Hid (Tcs (Sq g q) w w2) := HT1.out.trans (hd2.tcs.mono s0q)
      obtain ⟨pf, hpf⟩ : ∃ pf : Int, pf = G.ps[f] := ⟨_, rfl⟩
      obtain ⟨nm, hnm⟩ : ∃ nm : ByteArray, nm = G.cs[f] := ⟨_, rfl⟩
      have hpfb : 0 ≤ pf ∧ pf ≤ 6 := by rw [hpf]; exact HG2.out.ok.pb _ (List.getElem_mem hfp)
      have HNm : Hid (nm.size ≤ 100000) := by rw [hnm]; exact HG2.out.ok.ns.1 _ (List.getElem_mem hfc)
      obtain ⟨pb, pcap, hvp, -⟩ := ints_at (HG2.out.ok.p w2 (Tcs.refl _ _)) f hfp
      obtain ⟨cb, off, ccap, hvc2, -⟩ := strs_at (HG2.out.ok.c w2 (Tcs.refl _ _)) f hfc
      have HVP : Hid (G.vp = .slice (some ⟨pb, 0, none⟩) cl pcap) := by rw [HCL.out.2]; exact hvp
      have HVC2 : Hid (G.vc = .slice (some ⟨cb, off, none⟩) cl ccap) := by rw [HCL.out.1]; exact hvc2
      have HPC : Hid (∀ W, Tcs S w2 W → W.cell? ⟨pb, f, none⟩ = some (.int .i64 pf) ∧ W.cell? ⟨cb, off + f, none⟩ = some (.string nm)) := fun W hW => by
        obtain ⟨pb', pc', q1, q2⟩ := ints_at (HG2.out.ok.p W hW) f hfp
        obtain ⟨cb', off', cc', q3, q4⟩ := strs_at (HG2.out.ok.c W hW) f hfc
        rw [hvp] at q1
        rw [hvc2] at q3
        simp only [Value.slice.injEq, Option.some.injEq, Addr.mk.injEq] at q1 q3
        obtain ⟨⟨rfl, -, -⟩, -, rfl⟩ := q1
        obtain ⟨⟨rfl, rfl, -⟩, -, rfl⟩ := q3
        rw [hpf, hnm]
        exact ⟨q2, q4⟩
      have HE1 : Hid (∀ W, Lo g a len (S0 g) W.heap.size → Cur g a len cap W → GnOk (S0 g) W G K → Calls Tryz.prog 77 #[.pointer (some ⟨g, 0, none⟩), .agg #[.slice (some ⟨cb, off, none⟩) cl ccap, .slice (some ⟨pb, 0, none⟩) cl pcap, G.vs, G.vl, .int .i64 G.m], .int .i64 1] W fun e w' => ∃ u ns, e = .returned u ∧ NRow W.heap.size w' u ns ∧ okN ns 9 ∧ Dr g a len cap (S0 g) W w') := fun W h1 h2 h3 => by
        have := expr_any g a len cap (S0 g) hl 1 (by omega) 1 G K W rfl h1 h2 h3 (by omega)
        rw [HVP.out, HVC2.out] at this
        exact this
      have hff : (f : Int) < (cl : Int) := by omega
      have HBx : Hid (∀ W, GB q W G → W.cell? ⟨q, 0, none⟩ = some (.slice (some ⟨cb, off, none⟩) cl ccap) ∧ W.cell? ⟨q, 1, none⟩ = some (.slice (some ⟨pb, 0, none⟩) cl pcap) ∧ W.cell? ⟨q, 2, none⟩ = some G.vs ∧ W.cell? ⟨q, 3, none⟩ = some G.vl ∧ W.cell? ⟨q, 4, none⟩ = some (.int .i64 G.m)) := fun W hB => by
        have h0 := hB.c0
        have h1 := hB.c1
        rw [HVC2.out] at h0
        rw [HVP.out] at h1
        exact ⟨h0, h1, hB.c2, hB.c3, hB.c4⟩
      have hs2 : w.heap.size ≤ w2.heap.size := HT2.out.size
      have HS2 : Hid (∀ k, S k → k < w2.heap.size) := HG2.out.lo.s
      have HL2 : Hid (Lo g a len S w2.heap.size) := HG2.out.lo
      have HG3 : Hid (GS g a len cap q (Sv S (.slice (some ⟨w2.heap.size, 0, none⟩) 0 0)) (w2.alloc (.cells #[] 91)) G K) := HG2.out.add (HG2.out.alloc _) ((Tcs.refl _ _).alloc _) (fun k hk => by simp [Value.ownBlock] at hk; subst hk; simp)
      clear hd2 hpf hnm hvp hvc2 x0 x1 x2 x3 x4 hfc hfp
      go_wp2_with fail
      go_loopw [12, 13, 14] (fun ov i ar wr => ∃ j : Nat, (j : Int) ≤ pf ∧ i = .int .i64 j ∧ ∃ ns : List Nd, NRow w2.heap.size wr ov ns ∧ okN ns (j * 9) ∧ GS g a len cap q (Sv S ov) wr G K ∧ Tcs (S0 g) w2 wr) (fun _ i _ _ => pf.toNat - (RowKit.intOf i).toNat)
      case atStart => exact ⟨0, by omega, rfl, [], nrow_nil w2 w2.heap.size (Nat.le_refl _), by rw [Nat.zero_mul]; exact okN.nil, HG3.out, (Tcs.refl _ _).alloc _⟩
      case round =>
        obtain ⟨j, hj, rfl, ns, hr, hn, hgr, htr⟩ := hrel
        have HR : Hid (NRow w2.heap.size wr u12 ns) := hr
        have HN : Hid (okN ns (j * 9)) := hn
        have HGr : Hid (GS g a len cap q (Sv S u12) wr G K) := hgr
        have HTr : Hid (Tcs (S0 g) w2 wr) := htr
        obtain ⟨x0, x1, x2, x3, x4⟩ := HBx.out wr hgr.box
        obtain ⟨y0, y1⟩ := HPC.out wr (htr.mono HG2.out.s0)
        have hnl : ns.length ≤ 54 := Nat.le_trans hn.1 (by omega)
        have hsr : w2.heap.size ≤ wr.heap.size := htr.size
        clear hr hn hgr htr
        by_cases hlt : (j : Int) < pf
        · go_wp2_with fail
          refine (HE1.out wr HGr.out.lo0 HGr.out.cur HGr.out.ok0).mono ?_
          rintro e w4 ⟨u4, e4, rfl, hr4, hn4, hd4⟩
          have hR4 := own_tcs HR.out hd4.tcs (fun k hk => HS2.out k (HG2.out.s0 k hk))
          have hl4 : e4.length ≤ 9 := hn4.1
          obtain ⟨v5, w5, r5, r5b, r5c, r5d⟩ := run_appN (w := w4) w2.heap.size 85 _ ns hR4 u4 e4 (NRow.nodes hr4) (by omega) (Nat.le_trans hsr hd4.tcs.size)
          have ht5 : Tcs (fun k => u12.ownBlock = some k) w4 w5 := Tcs.of_grown r5c (fun k hk => hk)
          have HR5 : Hid (NRow w2.heap.size w5 v5 (ns ++ e4) ∧ okN (ns ++ e4) (j * 9 + 9) ∧ GS g a len cap q (Sv S v5) w5 G K ∧ Tcs (S0 g) w2 w5) := ⟨r5b, HN.out.app hn4, (HGr.out.dr hd4).app HL2.out HG2.out.sq (fun k hk => (World.ownsRow.lt HR.out k hk).1) ht5 r5d (fun k hk => (World.ownsRow.lt r5b k hk).2), (HTr.out.trans hd4.tcs).next ht5 (fun k hk => .inr (World.ownsRow.lt HR.out k hk).1)⟩
          have Hr5 : Hid _ := r5
          clear hr4 hn4 hd4 hR4 r5 r5b r5c r5d x0 x1 x2 x3 x4 y0 y1 ht5
          go_wp2_with (at_builtin; refine wpList_appG rfl _ _ _ rfl _ _ _ _ rfl rfl Hr5.out ?_)
          go_roundw
          case rel => exact ⟨j + 1, by omega, by go_num, ns ++ e4, HR5.out.1, by rw [Nat.succ_mul]; exact HR5.out.2.1, HR5.out.2.2.1, HR5.out.2.2.2⟩
          case measure => simp [RowKit.intOf]; omega
        · have hj6 : j ≤ 6 := by omega
          go_upto_region 33 with fail
          go_region_law
            (refine step_appN rfl (.tmp 137) (.tmp 153) rfl w2.heap.size _ ns rfl (NRow.below HR.out (((Below.refl _ _).drew).alloc (Nat.le_refl _) _)) _ _ rfl (nrow_lit wr.drew 0 (Nat.zero_le _) _ _ _).nodes (by simp; omega) (by simp; omega) ?_
             intro u6 w6 h6 g6 f6
             obtain ⟨a6, n6, c6, rfl⟩ : ∃ x y z, u6 = .slice x y z := by obtain ⟨x, y, e, -⟩ := own_shape h6; exact ⟨x, _, y, e⟩
             have ht6 : Tcs (fun k => u12.ownBlock = some k) (wr.drew.alloc (.cells #[.int .i64 4, .int .i64 pf, .string nm] 91)) w6 := Tcs.of_grown g6 (fun k hk => hk)
             have hgb : Below wr.heap.size wr (wr.drew.alloc (.cells #[.int .i64 4, .int .i64 pf, .string nm] 91)) := ((Below.refl _ _).drew).alloc (Nat.le_refl _) _
             have hg6 : GS g a len cap q (Sv S (.slice a6 n6 c6)) w6 G K := (HGr.out.below hgb).app HL2.out HG2.out.sq (fun k hk => (World.ownsRow.lt HR.out k hk).1) ht6 f6 (fun k hk => (World.ownsRow.lt h6 k hk).2)
             have htw6 : Tcs (Sq g q) w w6 := (HT2.out.trans ((HTr.out.of_below hgb).next ht6 (fun k hk => .inr (World.ownsRow.lt HR.out k hk).1) |>.mono s0q))
             have HF : Hid (StP g a len cap q S K L 1 w (.slice (some ⟨w6.heap.size, 0, none⟩) 1 1) (w6.alloc (.cells #[.int .i64 8, .string ⟨#[]⟩, .slice a6 n6 c6, .slice none 0 0, .int .i64 0, .int .i64 0] 88))) := one_fin (L := L) 8 0 0 ⟨#[]⟩ ((hg6.drop HL2.out.sg HG2.out.sq).more (Nat.le_add_right _ _)) htw6 (nrow_st h6 hs2) (fun W _ => nodes_none W) (okN.more (HN.out.app (okN.one HNm.out)) (by omega)) (okN.nil.more (Nat.zero_le _)) (by decide) (by omega)
             clear h6 g6 f6 ht6 hgb hg6 htw6)
          all_goals (
            go_wp2_with fail
            go_ret
            exact ⟨_, rfl, HF.out⟩)
    · obtain ⟨cl, hcl⟩ : ∃ cl, cl = G.cs.length := ⟨_, rfl⟩
      have hcl0 : (cl : Int) ≤ 0 := by omega
      rw [hvc, ← hcl] at x0
      have HVC : Hid (G.vc = .slice ac cl cc) := by rw [hcl]; exact hvc
      have HLf : Hid (∀ W, Lo g a len (S0 g) W.heap.size → Cur g a len cap W → GnOk (S0 g) W G K → Calls Tryz.prog 78 #[.pointer (some ⟨g, 0, none⟩), .agg #[.slice ac cl cc, G.vp, G.vs, G.vl, .int .i64 G.m]] W fun e w' => ∃ u ns, e = .returned u ∧ NRow W.heap.size w' u ns ∧ okN ns 1 ∧ Dr g a len cap (S0 g) W w') := fun W h1 h2 h3 => by
        have := leaf_any g a len cap (S0 g) G K W hl h1 h2 h3 (by omega)
        rw [HVC.out] at this
        exact this
      clear hvc hcs hcl
      go_wp2_with fail
      refine (HLf.out w1 HG1.out.lo0 HG1.out.cur HG1.out.ok0).mono ?_
      rintro e w5 ⟨u5, e5, rfl, hr5, hn5, hd5⟩
      obtain ⟨a5, c5, rfl, -⟩ := own_shape hr5
      have HF : Hid (StP g a len cap q S K L 1 w (.slice (some ⟨w5.heap.size, 0, none⟩) 1 1) (w5.alloc (.cells #[.int .i64 7, .string ⟨#[]⟩, .slice a5 e5.length c5, .slice none 0 0, .int .i64 0, .int .i64 0] 88))) := one_fin (L := L) 7 0 0 ⟨#[]⟩ ((HG1.out.dr hd5).more (Nat.le_add_right _ _)) (HT1.out.trans (hd5.tcs.mono s0q)) (nrow_st hr5 HT1.out.size) (fun W _ => nodes_none W) (hn5.e3 (by omega)) (okN.nil.more (Nat.zero_le _)) (by decide) (by omega)
      clear hr5 hn5 hd5 x0 x1 x2 x3 x4
      generalize e5.length = l5 at HF ⊢
      go_wp2_with fail
      go_ret
      exact ⟨_, rfl, HF.out⟩
  · by_cases hz0 : z = 0
    · subst hz0
      go_wp2_with fail
      refine (leaf_any g a len cap (S0 g) G K w1 hl HG1.out.lo0 HG1.out.cur HG1.out.ok0 (by omega)).mono ?_
      rintro e w5 ⟨u5, e5, rfl, hr5, hn5, hd5⟩
      obtain ⟨a5, c5, rfl, -⟩ := own_shape hr5
      have HF : Hid (StP g a len cap q S K L 1 w (.slice (some ⟨w5.heap.size, 0, none⟩) 1 1) (w5.alloc (.cells #[.int .i64 7, .string ⟨#[]⟩, .slice a5 e5.length c5, .slice none 0 0, .int .i64 0, .int .i64 0] 88))) := one_fin (L := L) 7 0 0 ⟨#[]⟩ ((HG1.out.dr hd5).more (Nat.le_add_right _ _)) (HT1.out.trans (hd5.tcs.mono s0q)) (nrow_st hr5 HT1.out.size) (fun W _ => nodes_none W) (hn5.e3 (by omega)) (okN.nil.more (Nat.zero_le _)) (by decide) (by omega)
      clear hr5 hn5 hd5 x0 x1 x2 x3 x4
      generalize e5.length = l5 at HF ⊢
      go_wp2_with fail
      go_ret
      exact ⟨_, rfl, HF.out⟩
    · have hz1 : 0 < z := by omega
      obtain ⟨d', hd'⟩ : ∃ d', d = d' + 1 := ⟨d - 1, by have := HZ.out; omega⟩
      have HLp : Hid (∀ W, Tcs (Sq g q) w W → GS g a len cap q S W G K → Calls Tryz.prog 107 #[.pointer (some ⟨g, 0, none⟩), .pointer (some ⟨q, 0, none⟩), .int .i64 z] W fun e w' => ∃ v, e = .returned v ∧ StP g a len cap q S K L 1 W v w') := fun W _ hW => by
        have hk' : K + dpt (d' + 1) ≤ 50000 := by rw [← hd', ← HLd.out]; exact hK
        have := loop_any g a len cap q d' hl (by omega) (HX.out d' hd') z (by rw [← hd']; exact HZ.out) S G K W hW hk'
        rw [← hd', ← HLd.out] at this
        exact this
      clear hd' x0 x1 x2 x3 x4
      go_wp2_with fail
      refine (HLp.out w1 HT1.out HG1.out).mono ?_
      rintro e w2 ⟨v, rfl, hst⟩
      have HF : Hid (StP g a len cap q S K L 1 w v w2) := hst.from HT1.out
      clear hst
      go_wp2_with fail
      go_ret
      exact ⟨_, rfl, HF.out⟩
  · by_cases hz0 : z = 0
    · subst hz0
      rcases hk14 with rfl | rfl
      all_goals (
        go_wp2_with fail
        refine (leaf_any g a len cap (S0 g) G K w1 hl HG1.out.lo0 HG1.out.cur HG1.out.ok0 (by omega)).mono ?_
        rintro e w5 ⟨u5, e5, rfl, hr5, hn5, hd5⟩
        obtain ⟨a5, c5, rfl, -⟩ := own_shape hr5
        have HF : Hid (StP g a len cap q S K L 1 w (.slice (some ⟨w5.heap.size, 0, none⟩) 1 1) (w5.alloc (.cells #[.int .i64 7, .string ⟨#[]⟩, .slice a5 e5.length c5, .slice none 0 0, .int .i64 0, .int .i64 0] 88))) := one_fin (L := L) 7 0 0 ⟨#[]⟩ ((HG1.out.dr hd5).more (Nat.le_add_right _ _)) (HT1.out.trans (hd5.tcs.mono s0q)) (nrow_st hr5 HT1.out.size) (fun W _ => nodes_none W) (hn5.e3 (by omega)) (okN.nil.more (Nat.zero_le _)) (by decide) (by omega)
        clear hr5 hn5 hd5 x0 x1 x2 x3 x4
        generalize e5.length = l5 at HF ⊢
        go_wp2_with fail
        go_ret
        exact ⟨_, rfl, HF.out⟩)
    · have hz1 : 0 < z := by omega
      obtain ⟨d', hd'⟩ : ∃ d', d = d' + 1 := ⟨d - 1, by have := HZ.out; omega⟩
      have HXd : Hid (StC g a len cap q d') := HX.out d' hd'
      obtain ⟨D, hD⟩ : ∃ D, D = dpt d' := ⟨_, rfl⟩
      have hLD : L = 4 * D + 3 := by rw [HLd.out, hd', hD]; rfl
      have HD : Hid (D = dpt d') := hD
      have HLD : Hid (L = 4 * D + 3) := hLD
      have hDL : 4 * D + 3 ≤ L ∧ L ≤ 4 * D + 3 := by omega
      have HZd : Hid (z - 1 = (d' : Int)) := by show _ = _; have := HZ.out; omega
      have hd3 : d' ≤ 3 := by omega
      clear hd' hD hLD
      rcases hk14 with rfl | rfl
      all_goals (
        go_wp2_with fail
        refine (whole_any g a len cap (S0 g) G K w1 hl HG1.out.lo0 HG1.out.cur HG1.out.ok0 (by omega)).mono ?_
        rintro e w2 ⟨u2, e2, rfl, hr2, hn2, hd2⟩
        obtain ⟨a2, n2, c2, rfl⟩ : ∃ x y z, u2 = .slice x y z := by obtain ⟨x, y, e, -⟩ := own_shape hr2; exact ⟨x, _, y, e⟩
        have HG2 : Hid (GS g a len cap q S w2 G K) := HG1.out.dr hd2
        have HT2 : Hid (Tcs (Sq g q) w w2) := HT1.out.trans (hd2.tcs.mono s0q)
        have HN2 : Hid (∀ W, Tcs (fun k => k < w.heap.size) w2 W → Nodes W (.slice a2 n2 c2) e2) := nrow_st hr2 HT1.out.size
        have HO2 : Hid (okN e2 3000) := hn2.e3 (by omega)
        clear hr2 hn2 hd2 x0 x1 x2 x3 x4
        go_wp2_with fail
        refine (below_any g a len cap (S0 g) _ _ hl hS0 HG2.out.cur (by omega)).mono ?_
        rintro e w3 ⟨x, rfl, hx, hd3'⟩
        have HG3 : Hid (GS g a len cap q S w3 G K) := HG2.out.dr hd3'
        have H23 : Hid (Tcs (Sq g q) w2 w3) := hd3'.tcs.mono s0q
        obtain ⟨n, hnn⟩ : ∃ n, n = x.toNat := ⟨_, rfl⟩
        have hn2' : n ≤ 2 := by omega
        have HNx : Hid (x = (n : Int)) := by show _ = _; omega
        obtain ⟨nD, hnD⟩ : ∃ nD, nD = n * dpt d' := ⟨_, rfl⟩
        have HnD : Hid (nD = n * dpt d') := hnD
        have hnDb : nD ≤ 2 * D := by rw [hnD, ← HD.out]; exact Nat.mul_le_mul_right _ hn2'
        clear hd3' hnn hnD
        go_wp2_with fail
        refine (block_any g a len cap q d' (by omega) HXd.out n (by omega) _ _ HNx.out HZd.out S G K w3 HG3.out (by rw [← HnD.out]; omega)).mono ?_
        rintro e w4 ⟨va, rfl, Ra, G4, hr4, -, hg4, ht4⟩
        rw [← HnD.out] at hr4 hg4
        obtain ⟨ba, bn, bc, rfl⟩ : ∃ x y z, va = .slice x y z := by obtain ⟨x, y, e⟩ := hr4.shape; exact ⟨x, _, y, e⟩
        have HR4 : Hid (SR w3.heap.size w4 (.slice ba bn bc) Ra nD) := hr4
        have HG4 : Hid (GS g a len cap q (Sv S (.slice ba bn bc)) w4 G4 (K + nD)) := hg4
        have H24 : Hid (Tcs (Sq g q) w2 w4) := H23.out.trans ht4
        clear hr4 hg4 ht4
        go_wp2_with fail
        refine (below_any g a len cap (S0 g) _ _ hl hS0 HG4.out.cur (by omega)).mono ?_
        rintro e w5 ⟨y, rfl, hy, hd5⟩
        have HG5 : Hid (GS g a len cap q (Sv S (.slice ba bn bc)) w5 G4 (K + nD)) := HG4.out.dr hd5
        have H45 : Hid (Tcs (Sq g q) w4 w5) := hd5.tcs.mono s0q
        clear hd5
        go_wp2_with fail
        refine (below_any g a len cap (S0 g) _ _ hl hS0 HG5.out.cur (by omega)).mono ?_
        rintro e w6 ⟨y2, rfl, hy2, hd6⟩
        have HG6 : Hid (GS g a len cap q (Sv S (.slice ba bn bc)) w6 G4 (K + nD)) := HG5.out.dr hd6
        have H46 : Hid (Tcs (Sq g q) w4 w6) := H45.out.trans (hd6.tcs.mono s0q)
        obtain ⟨m, hmm⟩ : ∃ m : Nat, m = (y * y2).toNat := ⟨_, rfl⟩
        have hyy : 0 ≤ y * y2 ∧ y * y2 ≤ 2 := by
          have : y2 = 0 ∨ y2 = 1 := by omega
          rcases this with rfl | rfl <;> omega
        have hm2 : m ≤ 2 := by omega
        have HMx : Hid (y * y2 = (m : Int)) := by show _ = _; omega
        obtain ⟨mD, hmD⟩ : ∃ mD, mD = m * dpt d' := ⟨_, rfl⟩
        have HmD : Hid (mD = m * dpt d') := hmD
        have hmDb : mD ≤ 2 * D := by rw [hmD, ← HD.out]; exact Nat.mul_le_mul_right _ hm2
        have hw64 : wrap64 (y * y2) = y * y2 := by unfold wrap64; omega
        have HW64 : Hid (IntKind.i64.wrap (y * y2) = y * y2) := by show _ = _; rw [IntKind.wrap_i64]; omega
        generalize hyz : y * y2 = yy at *
        clear hd6 hmm hmD
        go_wp2_with fail
        try simp only [hyz]
        refine (block_any g a len cap q d' (by omega) HXd.out m (by omega) _ _ HMx.out HZd.out (Sv S (.slice ba bn bc)) G4 (K + nD) w6 HG6.out (by rw [← HmD.out]; omega)).mono ?_
        rintro e w7 ⟨vb, rfl, Rb, G7, hr7, -, hg7, ht7⟩
        rw [← HmD.out] at hr7 hg7
        obtain ⟨da, dn, dc, rfl⟩ : ∃ x y z, vb = .slice x y z := by obtain ⟨x, y, e⟩ := hr7.shape; exact ⟨x, _, y, e⟩
        have h47 := H46.out.trans ht7
        have h27 := H24.out.trans h47
        have hT7 := HT2.out.trans h27
        have hs7 : w.heap.size ≤ w7.heap.size := hT7.size
        have hk3 : ∀ k, Sq g q k → k < w3.heap.size := HG3.out.k0
        have hra := HR4.out.tcs h47 hk3
        have hso := sr_lit (w := w7) (B := w.heap.size) (kd := 4) (th := bn) (el := dn) (nm := ⟨#[]⟩) (vf := .slice none 0 0) (f := []) hs7 (fun W hW => HN2.out W ((h27.mono HG.out.k0).trans hW)) (fun W _ => nodes_none W) HO2.out (okN.nil.more (Nat.zero_le _)) (by decide)
        obtain ⟨W8, hW8⟩ : ∃ W8, W8 = w7.alloc (.cells #[.int .i64 4, .string ⟨#[]⟩, .slice a2 n2 c2, .slice none 0 0, .int .i64 bn, .int .i64 dn] 88) := ⟨_, rfl⟩
        have hb8 : Below w7.heap.size w7 W8 := by rw [hW8]; exact (Below.refl _ _).alloc (Nat.le_refl _) _
        rw [← hW8] at hso
        have hown : ∀ k, (Value.slice (some ⟨w7.heap.size, 0, none⟩) 1 1).ownBlock = some k → w7.heap.size ≤ k := fun k hk => by simp [Value.ownBlock] at hk; omega
        have hwk3 : w.heap.size ≤ w3.heap.size := Nat.le_trans HT2.out.size H23.out.size
        have hwk6 : w.heap.size ≤ w6.heap.size := Nat.le_trans HT2.out.size (H24.out.trans H46.out).size
        obtain ⟨v9, w9, r9, h9, t9, f9⟩ := sr_app 59 hso (hra.below hb8) (Nat.le_trans hs7 hb8.size) (by omega) (sr_before hra hb8.tcs hwk3 hown)
        have h79 : Tcs (fun _ => False) w7 w9 := (hb8.tcs (S := fun _ => False)).next t9 (fun k hk => .inr (hown k hk))
        have hv9 : ∀ k, v9.ownBlock = some k → w7.heap.size ≤ k := fun k hk => by
          rcases f9 k hk with h | h
          · exact hown k h
          · have := hb8.size; omega
        obtain ⟨v10, w10, r10, h10, t10, f10⟩ := sr_app 59 h9 (hr7.tcs h79 (fun k hk => hk.elim)) (Nat.le_trans hs7 h79.size) (by omega) (sr_before hr7 (h79.mono fun k hk => hk.elim) hwk6 hv9)
        have hgS := hg7.sub (S' := S) (fun k hk => .inl (.inl hk)) HG.out.lo.sg HG.out.sq
        have hg8 := GS.add (v := .slice (some ⟨w7.heap.size, 0, none⟩) 1 1) hgS (hgS.below hb8) hb8.tcs (fun k hk => ⟨hown k hk, (hso.rng k hk).2⟩)
        have hg9 := hg8.app HG.out.lo HG.out.sq (fun k hk => (hso.rng k hk).1) t9 f9 (fun k hk => (h9.rng k hk).2)
        have hg10 := hg9.app HG.out.lo HG.out.sq (fun k hk => (h9.rng k hk).1) t10 f10 (fun k hk => (h10.rng k hk).2)
        have HF : Hid (StP g a len cap q S K L 1 w v10 w10) := ⟨_, G7, h10.more (by omega), by simp, hg10.more (by omega), (hT7.trans (h79.mono fun k hk => hk.elim)).next t10 (fun k hk => .inr (h9.rng k hk).1)⟩
        rw [hW8] at r9
        have Hr9 : Hid _ := r9
        have Hr10 : Hid _ := r10
        clear hr7 hg7 ht7 h47 h27 hT7 hs7 hk3 hra hso hb8 hown r9 h9 t9 f9 h79 hv9 r10 h10 t10 f10 hgS hg8 hg9 hg10 hW8
        go_wp2_with (at_builtin; first
          | refine wpList_appG rfl (.tmp 198) (.tmp 199) _ rfl _ _ _ _ rfl rfl Hr9.out ?_
          | refine wpList_appG rfl (.tmp 200) (.tmp 201) _ rfl _ _ _ _ rfl rfl Hr10.out ?_)
        go_ret
        exact ⟨_, rfl, HF.out⟩)
  · go_wp2_with fail
    refine (leaf_any g a len cap (S0 g) G K w1 hl HG1.out.lo0 HG1.out.cur HG1.out.ok0 (by omega)).mono ?_
    rintro e w5 ⟨u5, e5, rfl, hr5, hn5, hd5⟩
    obtain ⟨a5, c5, rfl, -⟩ := own_shape hr5
    have HF : Hid (StP g a len cap q S K L 1 w (.slice (some ⟨w5.heap.size, 0, none⟩) 1 1) (w5.alloc (.cells #[.int .i64 7, .string ⟨#[]⟩, .slice a5 e5.length c5, .slice none 0 0, .int .i64 0, .int .i64 0] 88))) := one_fin (L := L) 7 0 0 ⟨#[]⟩ ((HG1.out.dr hd5).more (Nat.le_add_right _ _)) (HT1.out.trans (hd5.tcs.mono s0q)) (nrow_st hr5 HT1.out.size) (fun W _ => nodes_none W) (hn5.e3 (by omega)) (okN.nil.more (Nat.zero_le _)) (by decide) (by omega)
    clear hr5 hn5 hd5 x0 x1 x2 x3 x4
    generalize e5.length = l5 at HF ⊢
    go_wp2_with fail
    go_ret
    exact ⟨_, rfl, HF.out⟩
theorem stmt_any (g : Nat) (a : Option Addr) (len cap q : Nat) (hl : len ≤ 1048576) (d : Nat) : d ≤ 4 → StC g a len cap q d := by
  induction d with
  | zero => intro hd; exact stmt_step g a len cap q hl 0 hd (fun d' h => by omega)
  | succ d ih => intro hd; exact stmt_step g a len cap q hl (d + 1) hd (fun d' h => by
    have e : d' = d := by omega
    rw [e]
    exact ih (by omega))
end
end Go.Proofs.YtjhmgjimppflhaaGreatDoor
