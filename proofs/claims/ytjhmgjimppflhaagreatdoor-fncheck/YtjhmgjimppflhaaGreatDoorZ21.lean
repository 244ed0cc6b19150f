import Derived.Test.YtjhmgjimppflhaaGreatDoorZ20
namespace Go.Proofs.YtjhmgjimppflhaaGreatDoor
set_option linter.unusedVariables false
set_option linter.unusedSimpArgs false
set_option maxRecDepth 100000
set_option maxHeartbeats 16000000
section
open Go.RowKit
/-- append(append([]string{}, v...), nm). -/
theorem sc_app (w : World) (v : Value) (ss : List ByteArray) (nm : ByteArray) (h : Strs w v ss) (hl : ss.length ≤ 100000) (ty : TypeId) :
    ∃ v1 w1 a2 n2 c2 w2, (Builtin.append_ #[58, 58] ty #[.slice (some ⟨w.heap.size, 0, none⟩) 0 0, v]).run Tryz.prog (w.alloc (.cells #[] 9)) = .ok v1 w1 ∧ (Builtin.append_ #[58, 58] ty #[v1, .slice (some ⟨w1.heap.size, 0, none⟩) 1 1]).run Tryz.prog (w1.alloc (.cells #[.string nm] 9)) = .ok (.slice a2 n2 c2) w2 ∧ w2.ownsRow w.heap.size 9 1 (.slice a2 n2 c2) (ss ++ [nm]).length ((ss ++ [nm]).map Value.string) ∧ Below w.heap.size w w2 := by
  obtain ⟨i0, hi, hz0, hz1, hz2⟩ := info_parts info_str
  have hb0 : Below w.heap.size w (w.alloc (.cells #[] 9)) := (Below.refl _ _).alloc (Nat.le_refl _) _
  have h0 : (w.alloc (.cells #[] 9)).ownsRow w.heap.size 9 1 (.slice (some ⟨w.heap.size, 0, none⟩) 0 0) 0 [] := World.ownsRow_lit w #[] 0 (Nat.le_refl _) (by decide) rfl
  obtain ⟨a, c, rfl, hn, hc⟩ := (h.below hb0).src
  obtain ⟨v1, w1, r1, o1, g1, -⟩ := run_appG (P := Tryz.prog) (w := w.alloc (.cells #[] 9)) w.heap.size 58 ty 9 i0 _ 1 16 Tryz.underlying58 hi hz0 hz1 hz2 rfl (by decide) _ 0 [] h0 a ss.length c (ss.map Value.string) (fun e => by rw [hn e]; rfl) (by simp) hc (fun u hu => by obtain ⟨x, -, rfl⟩ := List.mem_map.1 hu; rfl) (by omega) (by decide) hb0.size
  have hb1 : Below w.heap.size w w1 := hb0.grown g1 hb0.size (fun j hj => (World.ownsRow.lt h0 j hj).1)
  have hb2 : Below w.heap.size w (w1.alloc (.cells #[.string nm] 9)) := hb1.alloc hb1.size _
  have o1' := ownB o1 ((Below.refl w1.heap.size w1).alloc (Nat.le_refl _) (.cells #[.string nm] 9))
  have hlit : (w1.alloc (.cells #[.string nm] 9)).ownsRow w1.heap.size 9 1 (.slice (some ⟨w1.heap.size, 0, none⟩) 1 1) 1 [.string nm] := World.ownsRow_lit w1 #[.string nm] 1 (Nat.le_refl _) (by decide) rfl
  obtain ⟨v2, w2, r2, o2, g2, -⟩ := run_appG (P := Tryz.prog) (w := w1.alloc (.cells #[.string nm] 9)) w.heap.size 58 ty 9 i0 _ 1 16 Tryz.underlying58 hi hz0 hz1 hz2 rfl (by decide) v1 _ _ o1' (some ⟨w1.heap.size, 0, none⟩) 1 1 [.string nm] (fun e => by cases e) rfl (fun ad had j u hu => by cases had; exact World.ownsRow.cells hlit (g := w1.heap.size) rfl j u hu) (fun u hu => by simp at hu; subst hu; rfl) (by omega) (by decide) hb2.size
  obtain ⟨a2, c2, rfl, -⟩ := own_shape o2
  refine ⟨v1, w1, a2, _, c2, w2, r1, r2, ?_, hb2.grown g2 hb2.size (fun j hj => (World.ownsRow.lt o1' j hj).1)⟩
  have e1 : (ss ++ [nm]).length = 0 + ss.length + 1 := by simp
  have e2 : (ss ++ [nm]).map Value.string = [] ++ ss.map Value.string ++ [.string nm] := by simp
  rw [e1, e2]
  exact o2
/-- A row of three nodes, just made. -/
theorem nrow_lit3 (w : World) (B : Nat) (hB : B ≤ w.heap.size) (k1 v1 k2 v2 k3 v3 : Int) (s1 s2 s3 : ByteArray) : NRow B (w.alloc (.cells #[.int .i64 k1, .int .i64 v1, .string s1, .int .i64 k2, .int .i64 v2, .string s2, .int .i64 k3, .int .i64 v3, .string s3] 91)) (.slice (some ⟨w.heap.size, 0, none⟩) 3 3) [⟨k1, v1, s1⟩, ⟨k2, v2, s2⟩, ⟨k3, v3, s3⟩] :=
  World.ownsRow_lit w #[.int .i64 k1, .int .i64 v1, .string s1, .int .i64 k2, .int .i64 v2, .string s2, .int .i64 k3, .int .i64 v3, .string s3] 3 hB (by decide) rfl
theorem okN.three {k1 v1 k2 v2 k3 v3 : Int} {s1 s2 s3 : ByteArray} (h1 : s1.size ≤ 100000) (h2 : s2.size ≤ 100000) (h3 : s3.size ≤ 100000) : okN [⟨k1, v1, s1⟩, ⟨k2, v2, s2⟩, ⟨k3, v3, s3⟩] 3 :=
  (okN.one h1).app ((okN.one h2).app (okN.one h3))
/-- The generator's scope with one more name. -/
theorem scope_set {g : Nat} {a : Option Addr} {len cap q : Nat} {S : Nat → Prop} {w0 w2 : World} {G : Gn} {K : Nat} {v : Value} {ss : List ByteArray} {nm : ByteArray} (h : GS g a len cap q S w0 G K) (hb : Below w0.heap.size w0 w2) (ho : w2.ownsRow w0.heap.size 9 1 v (ss ++ [nm]).length ((ss ++ [nm]).map Value.string)) (hs : ∀ x ∈ ss, x.size ≤ 100000) (hn : nm.size ≤ 100000) (hl : ss.length + 1 ≤ K) : GS g a len cap q S (w2.setCell ⟨q, 2, none⟩ v) { G with vs := v, ss := ss ++ [nm] } K := by
  have h2 := h.below hb
  refine h2.set (h2.box.set2 _ _) (h2.ok.setS (fun W hW => own_strs (own_tcs ho hW h.lo.s)) (fun x hx => ?_) (by simpa using hl))
  rcases List.mem_append.1 hx with hx | hx
  · exact hs x hx
  · simp only [List.mem_singleton] at hx
    subst hx
    exact hn
theorem lock_set {g : Nat} {a : Option Addr} {len cap q : Nat} {S : Nat → Prop} {w0 w2 : World} {G : Gn} {K : Nat} {v : Value} {ss : List ByteArray} {nm : ByteArray} (h : GS g a len cap q S w0 G K) (hb : Below w0.heap.size w0 w2) (ho : w2.ownsRow w0.heap.size 9 1 v (ss ++ [nm]).length ((ss ++ [nm]).map Value.string)) (hs : ∀ x ∈ ss, x.size ≤ 100000) (hn : nm.size ≤ 100000) (hl : ss.length + 1 ≤ K) : GS g a len cap q S (w2.setCell ⟨q, 3, none⟩ v) { G with vl := v, ls := ss ++ [nm] } K := by
  have h2 := h.below hb
  refine h2.set (h2.box.set3 _ _) (h2.ok.setL (fun W hW => own_strs (own_tcs ho hW h.lo.s)) (fun x hx => ?_) (by simpa using hl))
  rcases List.mem_append.1 hx with hx | hx
  · exact hs x hx
  · simp only [List.mem_singleton] at hx
    subst hx
    exact hn
end
section
open Go.RowKit
set_option maxRecDepth 100000 in
set_option maxHeartbeats 8000000 in
theorem loop_any (g : Nat) (a : Option Addr) (len cap q d : Nat) (hl : len ≤ 1048576) (hd : d ≤ 3) (hX : StC g a len cap q d) (z : Int) (hz : z = ((d + 1 : Nat) : Int)) (S : Nat → Prop) (G : Gn) (K : Nat) (w : World) (h : GS g a len cap q S w G K) (hK : K + dpt (d + 1) ≤ 50000) :
    Calls Tryz.prog 107 #[.pointer (some ⟨g, 0, none⟩), .pointer (some ⟨q, 0, none⟩), .int .i64 z] w fun e w' => ∃ v, e = .returned v ∧ StP g a len cap q S K (dpt (d + 1)) 1 w v w' := by
  have hdb := dpt_le (d := d) (by omega)
  obtain ⟨D, hD⟩ : ∃ D, D = dpt d := ⟨_, rfl⟩
  have hDD : dpt (d + 1) = 4 * D + 3 := by rw [hD]; rfl
  rw [hDD] at hK ⊢
  have HX : Hid (StC g a len cap q d) := hX
  have HD : Hid (D = dpt d) := hD
  have hz1 : 1 ≤ z ∧ z ≤ 4 := by omega
  have HZ : Hid (z - 1 = d) := by show _ = _; omega
  rw [← hD] at hdb
  clear hX hD hDD hz
  have HG : Hid (GS g a len cap q S w G K) := h
  have hS0 : S0 g g := rfl
  have HS : Hid (∀ W, Tcs S w W → Strs W G.vs G.ss) := h.ok.s
  have HSn : Hid (∀ x ∈ G.ss, x.size ≤ 100000) := h.ok.ns.2.1
  have HLn : Hid (∀ x ∈ G.ls, x.size ≤ 100000) := h.ok.ns.2.2
  have HSS : Hid (∀ k, Sq g q k → S k) := h.sqs
  have hsl := h.ok.sl
  have hll := h.ok.ll
  have HL : Hid (Lo g a len S w.heap.size) := h.lo
  have HSq : Hid (S q) := h.sq
  clear h
  go_enter Tryz.func107, Tryz.ntmps107
  go_wp2_with fail
  refine (newName_any g a len cap q S G K w HG.out (by omega)).mono ?_
  rintro e w1 ⟨nm, rfl, hn1, hg1, ht1⟩
  have HNm : Hid (nm.size ≤ 100000) := hn1
  have HG1 : Hid (GS g a len cap q S w1 { G with m := G.m + 1 } (K + 1)) := hg1
  have HT1 : Hid (Tcs (Sq g q) w w1) := ht1
  obtain ⟨va1, wa1, xa, xn, xc, wa2, ra1, ra2, oa, ba⟩ := sc_app w1 G.vs G.ss nm (hg1.ok.s w1 (Tcs.refl _ _)) (by omega) 58
  have hg3 := scope_set hg1 ba oa HSn.out hn1 (by omega)
  have ht3 : Tcs (Sq g q) w (wa2.setCell ⟨q, 2, none⟩ (.slice xa xn xc)) := (ht1.of_below ba).trans (set_sq wa2 (.slice xa xn xc))
  have c2 : w1.cell? ⟨q, 2, none⟩ = some G.vs := hg1.box.c2
  have c2a : (w1.alloc (.cells #[] 9)).cell? ⟨q, 2, none⟩ = some G.vs := (hg1.alloc _).box.c2
  have ha2 := (hg1.below ba).box
  have d2 : wa2.cell? ⟨q, 2, none⟩ = some G.vs := ha2.c2
  have f2 : wa2.frozen? ⟨q, 2, none⟩ = false := ha2.fz 2
  obtain ⟨W3, hW3⟩ : ∃ W3, W3 = wa2.setCell ⟨q, 2, none⟩ (.slice xa xn xc) := ⟨_, rfl⟩
  have HW3 : Hid (W3 = wa2.setCell ⟨q, 2, none⟩ (.slice xa xn xc)) := hW3
  rw [← hW3] at hg3 ht3
  have Hra1 : Hid _ := ra1
  have Hra2 : Hid _ := ra2
  have HG3 : Hid (GS g a len cap q S W3 { G with m := G.m + 1, vs := (.slice xa xn xc), ss := G.ss ++ [nm] } (K + 1)) := hg3
  have HT3 : Hid (Tcs (Sq g q) w W3) := ht3
  clear hn1 hg1 ht1 oa hg3 ha2 ra1 ra2 ba ht3 hW3
  generalize hgv : G.vs = gvs at c2 c2a d2 Hra1
  have HGv : Hid (G.vs = gvs) := hgv
  clear hgv
  go_upto_region 4 with (at_builtin; first
    | refine wpList_appG rfl (.tmp 19) (.tmp 23) _ rfl _ _ _ _ rfl rfl Hra1.out ?_
    | refine wpList_appG rfl (.tmp 24) (.tmp 26) _ rfl _ _ _ _ rfl rfl Hra2.out ?_)
  rw [← HW3.out]
  clear c2 c2a d2 f2 HW3 Hra1 Hra2
  obtain ⟨vb1, wb1, ya, yn, yc, wb2, rb1, rb2, ob, bb⟩ := sc_app W3 G.vl G.ls nm (HG3.out.ok.l _ (Tcs.refl _ _)) (by omega) 58
  have hg5 := lock_set HG3.out bb ob HLn.out HNm.out (by omega)
  have ht5 : Tcs (Sq g q) w (wb2.setCell ⟨q, 3, none⟩ (.slice ya yn yc)) := (HT3.out.of_below bb).trans (set_sq wb2 (.slice ya yn yc))
  have d3 : W3.cell? ⟨q, 3, none⟩ = some G.vl := HG3.out.box.c3
  have d3a : (W3.alloc (.cells #[] 9)).cell? ⟨q, 3, none⟩ = some G.vl := (HG3.out.alloc _).box.c3
  have hb2 := (HG3.out.below bb).box
  have e3 : wb2.cell? ⟨q, 3, none⟩ = some G.vl := hb2.c3
  have k3 : wb2.frozen? ⟨q, 3, none⟩ = false := hb2.fz 3
  obtain ⟨W5, hW5⟩ : ∃ W5, W5 = wb2.setCell ⟨q, 3, none⟩ (.slice ya yn yc) := ⟨_, rfl⟩
  have HW5 : Hid (W5 = wb2.setCell ⟨q, 3, none⟩ (.slice ya yn yc)) := hW5
  rw [← hW5] at hg5 ht5
  obtain ⟨G5, hG5⟩ : ∃ G5 : Gn, G5 = { G with m := G.m + 1, vs := (.slice xa xn xc), ss := G.ss ++ [nm], vl := (.slice ya yn yc), ls := G.ls ++ [nm] } := ⟨_, rfl⟩
  have HG5 : Hid (GS g a len cap q S W5 G5 (K + 1)) := by rw [hG5]; exact hg5
  have HT5 : Hid (Tcs (Sq g q) w W5) := ht5
  have Hrb1 : Hid _ := rb1
  have Hrb2 : Hid _ := rb2
  clear rb1 rb2 ob bb hg5 ht5 hb2 hW5 hG5
  generalize G.vl = gvl at d3 d3a e3 Hrb1
  go_upto_region 5 with (at_builtin; first
    | refine wpList_appG rfl (.tmp 31) (.tmp 35) _ rfl _ _ _ _ rfl rfl Hrb1.out ?_
    | refine wpList_appG rfl (.tmp 36) (.tmp 38) _ rfl _ _ _ _ rfl rfl Hrb2.out ?_)
  rw [← HW5.out]
  clear d3 d3a e3 k3 HW5 Hrb1 Hrb2
  obtain ⟨W6, hW6⟩ : ∃ W6, W6 = W5.alloc (.cells #[.int .i64 2, .int .i64 0, .string nm] 91) := ⟨_, rfl⟩
  have HW6 : Hid (W6 = W5.alloc (.cells #[.int .i64 2, .int .i64 0, .string nm] 91)) := hW6
  have HG6 : Hid (GS g a len cap q S W6 G5 (K + 1)) := by rw [hW6]; exact HG5.out.alloc _
  have HT6 : Hid (Tcs (Sq g q) w W6) := by rw [hW6]; exact HT5.out.alloc _
  obtain ⟨P, hP⟩ : ∃ P, P = W5.heap.size := ⟨_, rfl⟩
  have HP : Hid (P = W5.heap.size) := hP
  have hPw : w.heap.size ≤ P := by rw [hP]; exact HT5.out.size
  have HPc : Hid (∀ W, Tcs (Sq g q) W6 W → W.cell? ⟨P, 0, none⟩ = some (.int .i64 2) ∧ W.cell? ⟨P, 1, none⟩ = some (.int .i64 0) ∧ W.cell? ⟨P, 2, none⟩ = some (.string nm)) := fun W hW => by
    have hlt : P < W6.heap.size := by rw [hW6, hP]; simp
    have e : ∀ o, W.cell? ⟨P, o, none⟩ = W6.cell? ⟨P, o, none⟩ := fun o => World.cell?_of_block (a := ⟨P, o, none⟩) (hW.block P hlt (fun s => by have := HG.out.lo.s P (HSS.out P s); omega))
    rw [e, e, e, hW6, hP]
    exact ⟨by simp, by simp, by simp⟩
  clear hW6 hP
  go_upto_region 6 with fail
  rw [← HW6.out, ← HP.out]
  clear HW6 HP
  go_wp2_with fail
  refine (below_any g a len cap (S0 g) _ _ hl hS0 HG6.out.cur (by omega)).mono ?_
  rintro e w7 ⟨x, rfl, hx, hd7⟩
  have HG7 : Hid (GS g a len cap q S w7 G5 (K + 1)) := HG6.out.dr hd7
  have HT7 : Hid (Tcs (Sq g q) w w7) := HT6.out.trans (hd7.tcs.mono s0q)
  have HT67 : Hid (Tcs (Sq g q) W6 w7) := hd7.tcs.mono s0q
  obtain ⟨n, hnn⟩ : ∃ n, n = (1 + x).toNat := ⟨_, rfl⟩
  have hn3 : n ≤ 3 ∧ 1 ≤ n := by omega
  have HNx : Hid (1 + x = (n : Int)) := by show _ = _; omega
  obtain ⟨nD, hnD⟩ : ∃ nD, nD = n * dpt d := ⟨_, rfl⟩
  have HnD : Hid (nD = n * dpt d) := hnD
  have hnDb : nD ≤ 3 * D := by rw [hnD, ← HD.out]; exact Nat.mul_le_mul_right _ hn3.1
  clear hd7 hnn hnD
  go_wp2_with fail
  refine (block_any g a len cap q d (by omega) HX.out n (by omega) _ _ HNx.out HZ.out S G5 (K + 1) w7 HG7.out (by rw [← HnD.out]; omega)).mono ?_
  rintro e w8 ⟨vb, rfl, Rb, G8, hr8, hl8, hg8, ht8⟩
  rw [← HnD.out] at hr8 hg8
  obtain ⟨ba, bn, bc, rfl⟩ : ∃ ba bn bc, vb = .slice ba bn bc := by obtain ⟨x, y, e⟩ := hr8.shape; exact ⟨x, _, y, e⟩
  obtain ⟨p0, p1, p2⟩ := HPc.out w8 (HT67.out.trans ht8)
  have h8s : w7.heap.size ≤ w8.heap.size := ht8.size
  have h7s : w.heap.size ≤ w7.heap.size := HT7.out.size
  have hPl : P < w8.heap.size := World.block_lt_of_cell? _ _ p0
  have hlit := sr_lit (w := w8.alloc (.cells #[.int .i64 2, .int .i64 0, .string nm, .int .i64 1, .int .i64 1, .string ⟨#[]⟩, .int .i64 7, .int .i64 4, .string ⟨#[]⟩] 91)) (B := w8.heap.size) (kd := 2) (th := 0) (el := 0) (nm := nm) (vf := .slice none 0 0) (f := []) (by simp) (nrow_st (nrow_lit3 w8 w8.heap.size (Nat.le_refl _) 2 0 1 1 7 4 nm ⟨#[]⟩ ⟨#[]⟩) (Nat.le_refl _)) (fun W _ => nodes_none W) ((okN.three HNm.out (by decide) (by decide)).e3 (by omega)) (okN.nil.more (Nat.zero_le _)) HNm.out
  have hr8' := (hr8.below ((Below.refl w8.heap.size w8).alloc (Nat.le_refl _) (.cells #[.int .i64 2, .int .i64 0, .string nm, .int .i64 1, .int .i64 1, .string ⟨#[]⟩, .int .i64 7, .int .i64 4, .string ⟨#[]⟩] 91))).below ((Below.refl _ _).alloc (Nat.le_refl _) (.cells #[.int .i64 2, .string nm, .slice (some ⟨w8.heap.size, 0, none⟩) 3 3, .slice none 0 0, .int .i64 0, .int .i64 0] 88))
  have hg8' := (hg8.alloc (.cells #[.int .i64 2, .int .i64 0, .string nm, .int .i64 1, .int .i64 1, .string ⟨#[]⟩, .int .i64 7, .int .i64 4, .string ⟨#[]⟩] 91)).alloc (.cells #[.int .i64 2, .string nm, .slice (some ⟨w8.heap.size, 0, none⟩) 3 3, .slice none 0 0, .int .i64 0, .int .i64 0] 88)
  have ht8' := (((HT7.out.trans ht8).alloc (.cells #[.int .i64 2, .int .i64 0, .string nm, .int .i64 1, .int .i64 1, .string ⟨#[]⟩, .int .i64 7, .int .i64 4, .string ⟨#[]⟩] 91)).alloc (.cells #[.int .i64 2, .string nm, .slice (some ⟨w8.heap.size, 0, none⟩) 3 3, .slice none 0 0, .int .i64 0, .int .i64 0] 88))
  obtain ⟨v11, w11, r11, h11, t11, f11⟩ := sr_app 59 hr8' hlit (by simp; omega) (by omega) (sr_behind hlit h8s (fun k hk => (hr8.rng k hk).2))
  obtain ⟨ca, cn, cc, rfl⟩ : ∃ ca cn cc, v11 = .slice ca cn cc := by obtain ⟨x, y, e⟩ := h11.shape; exact ⟨x, _, y, e⟩
  simp only [World.size_alloc] at r11
  have Hr11 : Hid _ := r11
  have H11 : Hid (SR w7.heap.size w11 (.slice ca cn cc) _ (nD + 1)) := h11
  have HG11 : Hid (GS g a len cap q (Sv S (.slice ca cn cc)) w11 G8 (K + 1 + nD)) := hg8'.app HG7.out.lo HSq.out (fun k hk => (hr8.rng k hk).1) t11 f11 (fun k hk => (h11.rng k hk).2)
  have HT11 : Hid (Tcs (Sq g q) w w11) := ht8'.next t11 (fun k hk => .inr (Nat.le_trans h7s (hr8.rng k hk).1))
  have HP11 : Hid (Tcs (Sq g q) W6 w11) := (((HT67.out.trans ht8).alloc _).alloc _).next t11 (fun k hk => .inr (Nat.le_trans HT67.out.size (hr8.rng k hk).1))
  have h711 : w7.heap.size ≤ w11.heap.size := by have := t11.size; simp at this; omega
  clear hr8 hl8 hg8 ht8 hlit hr8' hg8' ht8' r11 h11 t11 f11
  go_upto_region 8 with (at_builtin; refine wpList_appG rfl _ _ _ rfl _ _ _ _ rfl rfl Hr11.out ?_)
  clear p0 p1 p2 Hr11 hPl
  go_wp2_with fail
  refine (below_any g a len cap (S0 g) _ _ hl hS0 HG11.out.cur (by omega)).mono ?_
  rintro e w12 ⟨y, rfl, hy, hd12⟩
  have hg12 := HG11.out.dr hd12
  have HT12 : Hid (Tcs (Sq g q) w w12) := HT11.out.trans (hd12.tcs.mono s0q)
  have HP12 : Hid (Tcs (Sq g q) W6 w12) := HP11.out.trans (hd12.tcs.mono s0q)
  have H1112 : Hid (Tcs (Sq g q) w11 w12) := hd12.tcs.mono s0q
  obtain ⟨W14, hW14⟩ : ∃ W14, W14 = (w12.alloc (.cells #[.int .i64 1, .int .i64 y, .string ⟨#[]⟩] 91)).alloc (.cells #[.int .i64 1, .string nm, .slice (some ⟨w12.heap.size, 0, none⟩) 1 1, .slice none 0 0, .int .i64 0, .int .i64 0] 88) := ⟨_, rfl⟩
  have HW14 : Hid (W14 = (w12.alloc (.cells #[.int .i64 1, .int .i64 y, .string ⟨#[]⟩] 91)).alloc (.cells #[.int .i64 1, .string nm, .slice (some ⟨w12.heap.size, 0, none⟩) 1 1, .slice none 0 0, .int .i64 0, .int .i64 0] 88)) := hW14
  obtain ⟨O, hO⟩ : ∃ O, O = w12.heap.size + 1 := ⟨_, rfl⟩
  have HO : Hid (O = w12.heap.size + 1) := hO
  have hso := sr_lit (w := w12.alloc (.cells #[.int .i64 1, .int .i64 y, .string ⟨#[]⟩] 91)) (B := w12.heap.size) (kd := 1) (th := 0) (el := 0) (nm := nm) (vf := .slice none 0 0) (f := []) (by simp) (nrow_st (nrow_lit w12 w12.heap.size (Nat.le_refl _) 1 y ⟨#[]⟩) (Nat.le_refl _)) (fun W _ => nodes_none W) ((okN.one (by decide)).e3 (by omega)) (okN.nil.more (Nat.zero_le _)) HNm.out
  have hg14 := GS.add (v := .slice (some ⟨w12.heap.size + 1, 0, none⟩) 1 1) hg12 ((hg12.alloc (.cells #[.int .i64 1, .int .i64 y, .string ⟨#[]⟩] 91)).alloc (.cells #[.int .i64 1, .string nm, .slice (some ⟨w12.heap.size, 0, none⟩) 1 1, .slice none 0 0, .int .i64 0, .int .i64 0] 88)) (((Tcs.refl _ _).alloc _).alloc _) (fun k hk => by simp [Value.ownBlock] at hk; subst hk; simp)
  simp only [World.size_alloc] at hso
  rw [← hW14] at hg14
  rw [← hW14, ← hO] at hso
  rw [← hO] at hg14
  have HSo : Hid (SR w12.heap.size W14 (.slice (some ⟨O, 0, none⟩) 1 1) _ 1) := hso
  have HG14 : Hid (GS g a len cap q (Sv (Sv S (.slice ca cn cc)) (.slice (some ⟨O, 0, none⟩) 1 1)) W14 G8 (K + 1 + nD)) := hg14
  have HL12 : Hid (Lo g a len (Sv S (.slice ca cn cc)) w12.heap.size) := hg12.lo
  have HT14 : Hid (Tcs (Sq g q) w W14) := by rw [hW14]; exact (HT12.out.alloc _).alloc _
  have HP14 : Hid (Tcs (Sq g q) W6 W14) := by rw [hW14]; exact (HP12.out.alloc _).alloc _
  have H1114 : Hid (Tcs (Sq g q) w11 W14) := by rw [hW14]; exact (H1112.out.alloc _).alloc _
  have h12s : w.heap.size ≤ w12.heap.size := HT12.out.size
  have h1214 : w12.heap.size ≤ W14.heap.size := by rw [hW14]; simp; omega
  have h1112 : w11.heap.size ≤ w12.heap.size := H1112.out.size
  clear hd12 hg12 hso hg14 hW14 hO
  go_upto_region 9 with fail
  rw [← HW14.out, ← HO.out]
  clear HW14 HO
  obtain ⟨p0, p1, p2⟩ := HPc.out W14 HP14.out
  have hPl : P < W14.heap.size := World.block_lt_of_cell? _ _ p0
  have hlit := sr_lit (w := W14.alloc (.cells #[.int .i64 2, .int .i64 0, .string nm, .int .i64 1, .int .i64 0, .string ⟨#[]⟩, .int .i64 7, .int .i64 9, .string ⟨#[]⟩] 91)) (B := W14.heap.size) (kd := 5) (th := cn) (el := 0) (nm := ⟨#[]⟩) (vf := .slice none 0 0) (f := []) (by simp) (nrow_st (nrow_lit3 W14 W14.heap.size (Nat.le_refl _) 2 0 1 0 7 9 nm ⟨#[]⟩ ⟨#[]⟩) (Nat.le_refl _)) (fun W _ => nodes_none W) ((okN.three HNm.out (by decide) (by decide)).e3 (by omega)) (okN.nil.more (Nat.zero_le _)) (by decide)
  have hr14 := (HSo.out.below ((Below.refl W14.heap.size W14).alloc (Nat.le_refl _) (.cells #[.int .i64 2, .int .i64 0, .string nm, .int .i64 1, .int .i64 0, .string ⟨#[]⟩, .int .i64 7, .int .i64 9, .string ⟨#[]⟩] 91))).below ((Below.refl _ _).alloc (Nat.le_refl _) (.cells #[.int .i64 5, .string ⟨#[]⟩, .slice (some ⟨W14.heap.size, 0, none⟩) 3 3, .slice none 0 0, .int .i64 cn, .int .i64 0] 88))
  have hg16 := (HG14.out.alloc (.cells #[.int .i64 2, .int .i64 0, .string nm, .int .i64 1, .int .i64 0, .string ⟨#[]⟩, .int .i64 7, .int .i64 9, .string ⟨#[]⟩] 91)).alloc (.cells #[.int .i64 5, .string ⟨#[]⟩, .slice (some ⟨W14.heap.size, 0, none⟩) 3 3, .slice none 0 0, .int .i64 cn, .int .i64 0] 88)
  obtain ⟨v17, w17, r17, h17, t17, f17⟩ := sr_app 59 hr14 hlit (by simp; omega) (by omega) (sr_behind hlit h1214 (fun k hk => (HSo.out.rng k hk).2))
  obtain ⟨da, dn, dc, rfl⟩ : ∃ da dn dc, v17 = .slice da dn dc := by obtain ⟨x, y, e⟩ := h17.shape; exact ⟨x, _, y, e⟩
  simp only [World.size_alloc] at r17
  have Hr17 : Hid _ := r17
  have H17 : Hid (SR w12.heap.size w17 (.slice da dn dc) _ (1 + 1)) := h17
  have HG17 : Hid (GS g a len cap q (Sv (Sv S (.slice ca cn cc)) (.slice da dn dc)) w17 G8 (K + 1 + nD)) := hg16.app HL12.out (.inl HSq.out) (fun k hk => (HSo.out.rng k hk).1) t17 f17 (fun k hk => (h17.rng k hk).2)
  have HT17 : Hid (Tcs (Sq g q) w w17) := ((HT14.out.alloc _).alloc _).next t17 (fun k hk => .inr (Nat.le_trans h12s (HSo.out.rng k hk).1))
  have H1117 : Hid (Tcs (Sq g q) w11 w17) := ((H1114.out.alloc _).alloc _).next t17 (fun k hk => .inr (Nat.le_trans h1112 (HSo.out.rng k hk).1))
  clear hlit hr14 hg16 r17 h17 t17 f17
  go_upto_region 10 with (at_builtin; refine wpList_appG rfl _ _ _ rfl _ _ _ _ rfl rfl Hr17.out ?_)
  clear p0 p1 p2 Hr17 hPl
  have hst : Strs w17 gvs G.ss := by have := HS.out w17 (HT17.out.mono HSS.out); rwa [HGv.out] at this
  obtain ⟨vc1, wc1, za, zn, zc, wc2, rc1, rc2, oc, bc⟩ := sc_app w17 gvs G.ss nm hst (by omega) 58
  have hg19 := scope_set HG17.out bc oc HSn.out HNm.out (by omega)
  have hx2 := (HG17.out.below bc).box
  have d2 : wc2.cell? ⟨q, 2, none⟩ = some G8.vs := hx2.c2
  have f2 : wc2.frozen? ⟨q, 2, none⟩ = false := hx2.fz 2
  obtain ⟨W19, hW19⟩ : ∃ W19, W19 = wc2.setCell ⟨q, 2, none⟩ (.slice za zn zc) := ⟨_, rfl⟩
  have HW19 : Hid (W19 = wc2.setCell ⟨q, 2, none⟩ (.slice za zn zc)) := hW19
  have ht19 : Tcs (Sq g q) w17 W19 := by rw [hW19]; exact bc.tcs.trans (set_sq wc2 _)
  rw [← hW19] at hg19
  have h1119 : Tcs (Sq g q) w11 W19 := H1117.out.trans ht19
  have hS7 : ∀ k, Sq g q k → k < w7.heap.size := fun k hk => HG7.out.lo.s k (HSS.out k hk)
  have hr19 : SR w.heap.size W19 (.slice da dn dc) _ (1 + 1) := (H17.out.tcs ht19 (fun k hk => Nat.lt_of_lt_of_le (hS7 k hk) (by omega))).low h12s
  have hb19 := H11.out.tcs h1119 hS7
  obtain ⟨v20, w20, r20, h20, t20, f20⟩ := sr_app 59 hr19 hb19 (Nat.le_trans HT17.out.size ht19.size) (by omega) (sr_before H11.out (h1119.mono hS7) h7s (fun k hk => Nat.le_trans h1112 (H17.out.rng k hk).1))
  have Hr20 : Hid _ := r20
  have HF : Hid (StP g a len cap q S K (4 * D + 3) 1 w v20 w20) := by
    refine ⟨_, _, h20.more (by omega), by simp, GS.more ((hg19.sub (S' := Sv S (.slice da dn dc)) (fun k hk => hk.imp .inl id) (.inl HL.out.sg) (.inl HSq.out)).app HL.out HSq.out (fun k hk => (hr19.rng k hk).1) t20 f20 (fun k hk => (h20.rng k hk).2)) (by omega), ?_⟩
    exact (HT17.out.trans ht19).next t20 (fun k hk => .inr (hr19.rng k hk).1)
  have Hrc1 : Hid _ := rc1
  have Hrc2 : Hid _ := rc2
  clear rc1 rc2 oc bc hg19 hx2 hW19 ht19 h1119 hS7 hr19 hb19 r20 h20 t20 f20 hst
  generalize G8.vs = g8v at d2
  go_upto_region 11 with (at_builtin; first
    | refine wpList_appG rfl (.tmp 79) (.tmp 80) _ rfl _ _ _ _ rfl rfl Hrc1.out ?_
    | refine wpList_appG rfl (.tmp 81) (.tmp 83) _ rfl _ _ _ _ rfl rfl Hrc2.out ?_)
  rw [← HW19.out]
  clear d2 f2 HW19 Hrc1 Hrc2
  go_wp2_with (at_builtin; refine wpList_appG rfl _ _ _ rfl _ _ _ _ rfl rfl Hr20.out ?_)
  go_ret
  exact ⟨_, rfl, HF.out⟩
end
end Go.Proofs.YtjhmgjimppflhaaGreatDoor
