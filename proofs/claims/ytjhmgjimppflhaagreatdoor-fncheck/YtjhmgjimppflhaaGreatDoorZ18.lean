import Derived.Test.YtjhmgjimppflhaaGreatDoorZ17
import Derived.Deep.RegionHeld3
namespace Go.Proofs.YtjhmgjimppflhaaGreatDoor
set_option linter.unusedVariables false
set_option linter.unusedSimpArgs false
set_option maxRecDepth 100000
set_option maxHeartbeats 16000000
section
open Go.RowKit
/-- Four numbers written out. -/
theorem lit4 {S : Nat → Prop} {w w' : World} {t : TypeId} (h : Tcs S (w.alloc (.cells #[.int .i64 3, .int .i64 4, .int .i64 13, .int .i64 15] t)) w') (hS : ∀ k, S k → k < w.heap.size) (y : Nat) (hy : y < 4) : ∃ v : Int, w'.cell? ⟨w.heap.size, y, none⟩ = some (.int .i64 v) := by
  have e : ∀ o, w'.cell? ⟨w.heap.size, o, none⟩ = (w.alloc (.cells #[.int .i64 3, .int .i64 4, .int .i64 13, .int .i64 15] t)).cell? ⟨w.heap.size, o, none⟩ := fun o => World.cell?_of_block (a := ⟨w.heap.size, o, none⟩) (h.block w.heap.size (by simp) (fun s => by have := hS _ s; omega))
  have : y = 0 ∨ y = 1 ∨ y = 2 ∨ y = 3 := by omega
  rcases this with rfl | rfl | rfl | rfl
  · exact ⟨3, (e 0).trans (by simp)⟩
  · exact ⟨4, (e 1).trans (by simp)⟩
  · exact ⟨13, (e 2).trans (by simp)⟩
  · exact ⟨15, (e 3).trans (by simp)⟩
theorem xpt3 {x : Int} (h : 0 ≤ x ∧ x < 3) : xpt (1 + x).toNat ≤ 345 := by
  have : x = 0 ∨ x = 1 ∨ x = 2 := by omega
  rcases this with rfl | rfl | rfl <;> decide
set_option maxRecDepth 100000 in
set_option maxHeartbeats 8000000 in
theorem whole_any (g : Nat) (a : Option Addr) (len cap : Nat) (S : Nat → Prop) (G : Gn) (K : Nat) (w : World) (hl : len ≤ 1048576) (hL : Lo g a len S w.heap.size) (hc : Cur g a len cap w) (hG : GnOk S w G K) (hK : K ≤ 50000) :
    Calls Tryz.prog 46 #[.pointer (some ⟨g, 0, none⟩), .agg #[G.vc, G.vp, G.vs, G.vl, .int .i64 G.m]] w fun e w' => ∃ u ns, e = .returned u ∧ NRow w.heap.size w' u ns ∧ okN ns 400 ∧ Dr g a len cap S w w' := by
  have hS := hL.sg
  obtain ⟨vc, vp, vs, vl, m, cs, ps, ss, ls⟩ := G
  have HG : Hid (GnOk S w ⟨vc, vp, vs, vl, m, cs, ps, ss, ls⟩ K) := hG
  obtain ⟨ac, cc, e1, -⟩ := hG.c w (Tcs.refl _ _)
  obtain ⟨ap, cp, e2, -⟩ := hG.p w (Tcs.refl _ _)
  obtain ⟨av, cv, e3, -⟩ := hG.s w (Tcs.refl _ _)
  obtain ⟨al, cl, e4, -⟩ := hG.l w (Tcs.refl _ _)
  dsimp only at e1 e2 e3 e4
  subst e1 e2 e3 e4
  dsimp only
  clear hG
  generalize hW0 : w.alloc (.cells #[.slice ac cs.length cc, .slice ap ps.length cp, .slice av ss.length cv, .slice al ls.length cl, .int .i64 m] 80) = W0
  have HW0 : Hid (w.alloc (.cells #[.slice ac cs.length cc, .slice ap ps.length cp, .slice av ss.length cv, .slice al ls.length cl, .int .i64 m] 80) = W0) := hW0
  have HD0 : Hid (Dr g a len cap S w W0) := by rw [← hW0]; exact (Dr.refl hc).alloc _
  have HX : Hid (∀ W, Tcs S W0 W → W.cell? ⟨w.heap.size, 0, none⟩ = some (.slice ac cs.length cc) ∧ W.cell? ⟨w.heap.size, 1, none⟩ = some (.slice ap ps.length cp) ∧ W.cell? ⟨w.heap.size, 2, none⟩ = some (.slice av ss.length cv) ∧ W.cell? ⟨w.heap.size, 3, none⟩ = some (.slice al ls.length cl) ∧ W.cell? ⟨w.heap.size, 4, none⟩ = some (.int .i64 m)) := fun W hW => by rw [← hW0] at hW; exact (box5 hW hL.s)
  have HLo : Hid (Lo g a len S w.heap.size) := hL
  have HGn : Hid (∀ W, Tcs S W0 W → GnOk S W ⟨.slice ac cs.length cc, .slice ap ps.length cp, .slice av ss.length cv, .slice al ls.length cl, m, cs, ps, ss, ls⟩ K) := fun W h => HG.out.tcs (HD0.out.tcs.trans h)
  have HL0 : Hid (Lo g a len S W0.heap.size) := hL.mono HD0.out.tcs.size
  have hlt0 : w.heap.size < W0.heap.size := by rw [← hW0]; simp
  clear hW0 hc hL
  go_enter Tryz.func46, Tryz.ntmps46
  go_upto_region 1 with fail
  rw [HW0.out]
  obtain ⟨x0, x1, x2, x3, x4⟩ := HX.out W0 (Tcs.refl _ _)
  have hCd : Cur g a len cap W0.drew := HD0.out.cur.below (Below.refl _ _).drew
  have HCd : Hid (Cur g a len cap W0.drew) := hCd
  clear hCd
  go_region_held3 (fun W => W.cell? ⟨w.heap.size, 0, none⟩ = some (.slice ac cs.length cc) ∧ W.cell? ⟨w.heap.size, 1, none⟩ = some (.slice ap ps.length cp) ∧ W.cell? ⟨w.heap.size, 2, none⟩ = some (.slice av ss.length cv) ∧ W.cell? ⟨w.heap.size, 3, none⟩ = some (.slice al ls.length cl) ∧ W.cell? ⟨w.heap.size, 4, none⟩ = some (.int .i64 m)) (go_simp)
    (first
    | (go_at_call 20; refine (below_any g a len cap S _ _ hl hS HCd.out (by omega)).mono ?_; rintro e w1 ⟨x, rfl, hx, hd1⟩; have HD1 : Hid (Dr g a len cap S W0 w1) := ⟨hd1.cur, ((Tcs.refl S W0).drew).trans hd1.tcs⟩; obtain ⟨y0, y1, y2, y3, y4⟩ := HX.out w1 HD1.out.tcs; clear hd1)
    | (go_at_call 77; refine (expr_any g a len cap S hl (1 + x).toNat (by omega) _ ⟨.slice ac cs.length cc, .slice ap ps.length cp, .slice av ss.length cv, .slice al ls.length cl, m, cs, ps, ss, ls⟩ K w1 (by simp only [IntKind.wrap_i64]; omega) (HL0.out.mono HD1.out.tcs.size) HD1.out.cur (HGn.out _ HD1.out.tcs) hK).mono ?_; rintro e w2 ⟨u2, e2, rfl, hr2, hn2, hd2⟩; have HD2 : Hid (Dr g a len cap S W0 w2) := HD1.out.trans hd2; have HR2 : Hid (NRow W0.heap.size w2 u2 e2) := own_low hr2 HD1.out.tcs.size; have HN2 : Hid (okN e2 345) := hn2.more (xpt3 hx); obtain ⟨z0, z1, z2, z3, z4⟩ := HX.out w2 HD2.out.tcs; clear hr2 hn2 hd2))
  clear x0 x1 x2 x3 x4 y0 y1 y2 y3 y4 HCd
  have HFin : Hid (∀ w' u ns, NRow W0.heap.size w' u ns → okN ns 400 → Dr g a len cap S W0 w' → NRow w.heap.size w' u ns ∧ okN ns 400 ∧ Dr g a len cap S w w') := fun w' u ns h1 h2 h3 => ⟨own_low h1 HD0.out.tcs.size, h2, HD0.out.trans h3⟩
  go_wp2_with fail
  refine (once_any g a len cap S _ _ hl hS HD2.out.cur (by omega)).mono ?_
  rintro e w3 ⟨q, rfl, hd3⟩
  have HD3 : Hid (Dr g a len cap S W0 w3) := HD2.out.trans hd3
  have HR3 : Hid (NRow W0.heap.size w3 u2 e2) := own_tcs HR2.out hd3.tcs HL0.out.s
  clear hd3 z0 z1 z2 z3 z4
  cases q with
  | false =>
    have HF := HFin.out w3 u2 e2 HR3.out (HN2.out.more (by omega)) HD3.out
    have HF' : Hid _ := HF
    clear HF
    go_wp2_with fail
    go_ret
    exact ⟨_, _, rfl, HF'.out.1, HF'.out.2.1, HF'.out.2.2⟩
  | true =>
    go_wp2_with fail
    go_loopw [5, 6] (fun ov i wr => ∃ j : Nat, j ≤ 7 ∧ i = .int .i64 j ∧ ∃ ns : List Nd, NRow W0.heap.size wr ov ns ∧ okN ns (345 + 2 * j) ∧ Dr g a len cap S W0 wr) (fun _ i _ => 8 - (RowKit.intOf i).toNat)
    case atStart => exact ⟨0, by omega, rfl, e2, HR3.out, HN2.out, HD3.out⟩
    case round =>
      obtain ⟨j, hj, rfl, ns, hr, hn, hdr⟩ := hrel
      have HR : Hid (NRow W0.heap.size wr _ ns) := hr
      have HN : Hid (okN ns (345 + 2 * j)) := hn
      have HDr : Hid (Dr g a len cap S W0 wr) := hdr
      have hnl : ns.length ≤ 359 := Nat.le_trans hn.1 (by omega)
      clear hr hn hdr
      go_wp2_with fail
      refine (below_any g a len cap S _ _ hl hS HDr.out.cur (by omega)).mono ?_
      rintro e w4 ⟨y, rfl, hy, hd4⟩
      have HD4 : Hid (Dr g a len cap S W0 w4) := HDr.out.trans hd4
      have HR4 : Hid (NRow W0.heap.size w4 _ ns) := own_tcs HR.out hd4.tcs HL0.out.s
      have hs4 : W0.heap.size ≤ w4.heap.size := HD4.out.tcs.size
      clear hd4
      by_cases hlt : (j : Int) < 4 + y
      · obtain ⟨x0, x1, x2, x3, x4⟩ := HX.out w4 HD4.out.tcs
        go_wp2_with fail
        refine (leaf_any g a len cap S ⟨.slice ac cs.length cc, .slice ap ps.length cp, .slice av ss.length cv, .slice al ls.length cl, m, cs, ps, ss, ls⟩ K w4 hl (HL0.out.mono hs4) HD4.out.cur (HGn.out _ HD4.out.tcs) hK).mono ?_
        rintro e w5 ⟨u5, e5, rfl, hr5, hn5, hd5⟩
        have HD5 : Hid (Dr g a len cap S W0 w5) := HD4.out.trans hd5
        have HN5 : Hid (okN e5 1) := hn5
        have hl5 : e5.length ≤ 1 := hn5.1
        have HK5 : Hid (∀ W, Tcs S w5 W → Nodes W u5 e5) := nrow_fz hr5 (HL0.out.mono hs4).s
        have HK4 : Hid (∀ W, Tcs S w5 W → Nodes W _ ns) := fun W hW => nrow_fz HR4.out HL0.out.s W (hd5.tcs.trans hW)
        have hs5 : W0.heap.size ≤ w5.heap.size := HD5.out.tcs.size
        clear hr5 hn5 hd5 x0 x1 x2 x3 x4
        go_wp2_with fail
        refine (below_any g a len cap S _ _ hl hS (HD5.out.alloc _).cur (by omega)).mono ?_
        rintro e w6 ⟨z, rfl, hz, hd6⟩
        have HD6 : Hid (Dr g a len cap S W0 w6) := (HD5.out.alloc _).trans hd6
        have hT6 : Tcs S w5 w6 := ((Tcs.refl S w5).alloc _).trans hd6.tcs
        have HK6 : Hid (Nodes w6 u5 e5 ∧ Nodes w6 _ ns) := ⟨HK5.out w6 hT6, HK4.out w6 hT6⟩
        obtain ⟨zn, rfl⟩ : ∃ zn : Nat, z = zn := ⟨z.toNat, by omega⟩
        obtain ⟨vz, hvz⟩ := lit4 hd6.tcs (HL0.out.mono hs5).s zn (by omega)
        clear hd6 hT6 HK5 HK4
        go_wp2_with fail
        refine (join_any e5 ns _ _ _ u5 _ _ HK6.out.1 HK6.out.2 (by omega)).mono ?_
        rintro e w7 ⟨u7, rfl, hr7, hb7⟩
        have HE : Hid (NRow W0.heap.size w7 u7 (e5 ++ ns ++ [⟨7, vz, ⟨#[]⟩⟩]) ∧ okN (e5 ++ ns ++ [⟨7, vz, ⟨#[]⟩⟩]) (345 + 2 * (j + 1)) ∧ Dr g a len cap S W0 w7) := ⟨own_low hr7 HD6.out.tcs.size, okN.more ((HN5.out.app HN.out).app (okN.one (by decide))) (by omega), HD6.out.below hb7⟩
        clear hr7 hb7 hvz
        go_wp2_with fail
        go_roundw
        case rel => exact ⟨j + 1, by omega, by go_num, _, HE.out.1, HE.out.2.1, HE.out.2.2⟩
        case measure => simp [RowKit.intOf]; omega
      · have HF := HFin.out w4 _ ns HR4.out (HN.out.more (by omega)) HD4.out
        have HF' : Hid _ := HF
        clear HF
        go_wp2_with fail
        go_ret
        exact ⟨_, _, rfl, HF'.out.1, HF'.out.2.1, HF'.out.2.2⟩
end
section
open Go.RowKit
/-- A statement with its two rows of nodes and their blocks. -/
structure SV where
  s : St
  ve : Value
  vf : Value
  ke : List Nat
  kf : List Nat
def cellsS (q : SV) : List Value := [.int .i64 q.s.kind, .string q.s.name, q.ve, q.vf, .int .i64 q.s.thn, .int .i64 q.s.els]
def flatS (R : List SV) : List Value := R.flatMap cellsS
def blkS (R : List SV) : List Nat := R.flatMap (fun q => q.ke ++ q.kf)
theorem flatS_len (R : List SV) : (flatS R).length = R.length * 6 := by
  induction R with
  | nil => rfl
  | cons a r ih =>
    have : (flatS (a :: r)).length = 6 + (flatS r).length := by simp [flatS, cellsS]; omega
    rw [this, ih, List.length_cons]
    omega
theorem flatS_append (a b : List SV) : flatS (a ++ b) = flatS a ++ flatS b := by simp [flatS]
theorem blkS_append (a b : List SV) : blkS (a ++ b) = blkS a ++ blkS b := by simp [blkS]
theorem flatS_get : ∀ (R : List SV) (j i : Nat) (hj : j < R.length), i < 6 → (flatS R)[j * 6 + i]? = (cellsS R[j])[i]?
  | x :: l, 0, i, _, hi => by
    have : (cellsS x).length = 6 := rfl
    show (cellsS x ++ flatS l)[0 * 6 + i]? = _
    rw [List.getElem?_append_left (by omega)]
    simp
  | x :: l, j + 1, i, hj, hi => by
    have h7 : (cellsS x).length = 6 := rfl
    show (cellsS x ++ flatS l)[(j + 1) * 6 + i]? = _
    rw [List.getElem?_append_right (by omega)]
    have e : (j + 1) * 6 + i - (cellsS x).length = j * 6 + i := by omega
    rw [e, flatS_get l j i (by simpa using hj) hi]
    simp
theorem flatS_one (R : List SV) (h : ∀ q ∈ R, q.ve.oneCell' = true ∧ q.vf.oneCell' = true) : ∀ u ∈ flatS R, u.oneCell' = true := by
  intro u hu
  simp only [flatS, List.mem_flatMap] at hu
  obtain ⟨q, hq, hu⟩ := hu
  obtain ⟨h1, h2⟩ := h q hq
  simp only [cellsS, List.mem_cons, List.not_mem_nil, or_false] at hu
  rcases hu with rfl | rfl | rfl | rfl | rfl | rfl
  · rfl
  · rfl
  · exact h1
  · exact h2
  · rfl
  · rfl
theorem info_stmt : (Tryz.prog.info? 88).map (fun i => (i.zero, i.size, i.bytes)) = some (some (.agg #[.int .i64 0, .string ⟨#[]⟩, .slice none 0 0, .slice none 0 0, .int .i64 0, .int .i64 0]), 6, 88) := by kernel_rfl
theorem Nodes.cell1 {w : World} {v : Value} {ns : List Nd} (h : Nodes w v ns) : v.oneCell' = true := by
  obtain ⟨a, c, rfl, -⟩ := h
  rfl
end
section
open Go.RowKit
/-- A function with its rows and their blocks. -/
structure FV where
  f : Fu
  vp : Value
  vb : Value
  R : List SV
  kp : List Nat
  kb : List Nat
def cellsF (q : FV) : List Value := [.string q.f.name, q.vp, q.vb]
def flatF (Q : List FV) : List Value := Q.flatMap cellsF
def blk1 (q : FV) : List Nat := q.kp ++ (q.kb ++ blkS q.R)
def blkF (Q : List FV) : List Nat := Q.flatMap blk1
theorem flatF_len (Q : List FV) : (flatF Q).length = Q.length * 3 := by
  induction Q with
  | nil => rfl
  | cons a r ih =>
    have : (flatF (a :: r)).length = 3 + (flatF r).length := by simp [flatF, cellsF]; omega
    rw [this, ih, List.length_cons]
    omega
theorem flatF_append (a b : List FV) : flatF (a ++ b) = flatF a ++ flatF b := by simp [flatF]
theorem blkF_append (a b : List FV) : blkF (a ++ b) = blkF a ++ blkF b := by simp [blkF]
theorem flatF_get : ∀ (Q : List FV) (j i : Nat) (hj : j < Q.length), i < 3 → (flatF Q)[j * 3 + i]? = (cellsF Q[j])[i]?
  | x :: l, 0, i, _, hi => by
    have : (cellsF x).length = 3 := rfl
    show (cellsF x ++ flatF l)[0 * 3 + i]? = _
    rw [List.getElem?_append_left (by omega)]
    simp
  | x :: l, j + 1, i, hj, hi => by
    have h7 : (cellsF x).length = 3 := rfl
    show (cellsF x ++ flatF l)[(j + 1) * 3 + i]? = _
    rw [List.getElem?_append_right (by omega)]
    have e : (j + 1) * 3 + i - (cellsF x).length = j * 3 + i := by omega
    rw [e, flatF_get l j i (by simpa using hj) hi]
    simp
theorem info_func : (Tryz.prog.info? 61).map (fun i => (i.zero, i.size, i.bytes)) = some (some (.agg #[.string ⟨#[]⟩, .slice none 0 0, .slice none 0 0]), 3, 64) := by kernel_rfl
end
section
open Go.RowKit
theorem info_str : (Tryz.prog.info? 9).map (fun i => (i.zero, i.size, i.bytes)) = some (some (.string ⟨#[]⟩), 1, 16) := by kernel_rfl
/-- A slice whose cells are these texts. -/
def SSrc (w : World) (v : Value) (us : List ByteArray) : Prop := ∃ a cap, v = .slice a us.length cap ∧ (a = none → us = []) ∧ ∀ ad, a = some ad → ∀ j u, (us.map Value.string)[j]? = some u → w.cell? (ad.add j) = some u
theorem addr_addK (b o j : Nat) : (⟨b, o, none⟩ : Addr).add j = ⟨b, o + j, none⟩ := by simp only [Addr.add]; split <;> simp_all
theorem Strs.src {w : World} {v : Value} {us : List ByteArray} (h : Strs w v us) : SSrc w v us := by
  obtain ⟨a, cap, rfl, -, -, h⟩ := h
  by_cases hp : 0 < us.length
  · obtain ⟨b, off, rfl, hc⟩ := h hp
    refine ⟨_, cap, rfl, (fun h => by cases h), fun ad had j u hj => ?_⟩
    obtain rfl := Option.some.inj had
    have hl : j < us.length := by
      have := (List.getElem?_eq_some_iff.1 hj).1
      simpa using this
    have e : u = .string us[j] := by simpa [hl] using hj.symm
    rw [addr_addK, e]
    exact hc j hl
  · have h0 : us = [] := List.eq_nil_of_length_eq_zero (by omega)
    subst h0
    exact ⟨a, cap, rfl, fun _ => rfl, fun ad _ j u hj => by simp at hj⟩
theorem ssrc_1 (w : World) (x : ByteArray) (t : TypeId) : SSrc (w.alloc (.cells #[.string x] t)) (.slice (some ⟨w.heap.size, 0, none⟩) 1 1) [x] := by
  refine ⟨_, 1, rfl, (fun h => by cases h), fun ad h j u hj => ?_⟩
  obtain rfl := Option.some.inj h
  have hl : j = 0 := by
    have := (List.getElem?_eq_some_iff.1 hj).1
    simp at this
    omega
  subst hl
  simp at hj
  rw [addr_addK, ← hj]
  simp
/-- A row of texts of one's own. -/
def SRow (B : Nat) (w : World) (v : Value) (us : List ByteArray) : Prop := w.ownsRow B 9 1 v us.length (us.map (Value.string))
theorem SRow.shape {B : Nat} {w : World} {v : Value} {us : List ByteArray} (h : SRow B w v us) : ∃ a c, v = .slice a us.length c := by
  rcases h.2 with ⟨rfl, hz⟩ | ⟨g, cap, cur, rfl, _⟩
  · exact ⟨none, 0, by rw [hz]⟩
  · exact ⟨_, cap, rfl⟩
theorem SRow.below {B : Nat} {w w' : World} {v : Value} {us : List ByteArray} (h : SRow B w v us) (hb : Below w.heap.size w w') : SRow B w' v us := by
  obtain ⟨g1, g2⟩ := h
  refine ⟨g1, ?_⟩
  rcases g2 with g2 | ⟨g, cap, cur, rfl, g3, g4, g5⟩
  · exact .inl g2
  · refine .inr ⟨g, cap, cur, rfl, g3, ?_, g5⟩
    rw [hb.block g (Array.getElem?_eq_some_iff.1 g4).1]
    exact g4
theorem SRow.base {B B' : Nat} {w : World} {v : Value} {us : List ByteArray} (h : SRow B w v us) (hb : B' ≤ B) : SRow B' w v us := by
  obtain ⟨g1, g2⟩ := h
  refine ⟨g1, ?_⟩
  rcases g2 with g2 | ⟨g, cap, cur, rfl, g3, g4⟩
  · exact .inl g2
  · exact .inr ⟨g, cap, cur, rfl, Nat.le_trans hb g3, g4⟩
theorem srow_lit (W : World) (B : Nat) (hB : B ≤ W.heap.size) : SRow B (W.alloc (.cells #[] 9)) (.slice (some ⟨W.heap.size, 0, none⟩) 0 0) [] := World.ownsRow_lit W #[] 0 hB (by decide) rfl
theorem run_appS {w : World} (base : Nat) (ty : TypeId) (v : Value) (xs : List ByteArray) (hown : SRow base w v xs) (x : Value) (us : List ByteArray) (hx : SSrc w x us) (hm : xs.length + us.length ≤ 10000000) (hbase : base ≤ w.heap.size) :
    ∃ v' w', (Builtin.append_ #[58, 58] ty #[v, x]).run Tryz.prog w = .ok v' w' ∧ SRow base w' v' (xs ++ us) ∧ w.grownBy w' v.ownBlock ∧ ∀ k, v'.ownBlock = some k → v.ownBlock = some k ∨ w.heap.size ≤ k := by
  obtain ⟨i0, hi, hz0, hz1, hz2⟩ := info_parts info_str
  obtain ⟨a, cap, rfl, h2, h3⟩ := hx
  cases a with
  | none =>
    obtain rfl := h2 rfl
    have hr : (Builtin.append_ #[58, 58] ty #[v, .slice none ([] : List ByteArray).length cap]).run Tryz.prog w = .ok v w := by
      rcases hown.2 with ⟨rfl, hn⟩ | ⟨g, cap', cur, rfl, _, _, hnc, _⟩
      · simp [Builtin.append_, run_underlying Tryz.underlying58, sizeOf, typeInfo, hi, Builtin.lenOf, Builtin.firstCells]
      · simp [Builtin.append_, run_underlying Tryz.underlying58, sizeOf, typeInfo, hi, Builtin.lenOf, Builtin.firstCells, hnc, storeCells]
    exact ⟨v, w, hr, by simpa using hown, ⟨rfl, rfl, rfl, Nat.le_refl _, fun _ _ _ => rfl⟩, fun k hk => .inl hk⟩
  | some ad =>
    obtain ⟨v', w', r1, r2, r3, r4⟩ := app_freshG (P := Tryz.prog) (w := w) base 58 ty 9 i0 _ 1 16 Tryz.underlying58 hi hz0 hz1 hz2 rfl (by decide) v xs.length (xs.map (Value.string)) hown ad us.length cap (us.map (Value.string)) (by simp) (h3 ad rfl) (by intro u hu; simp at hu; obtain ⟨y, _, rfl⟩ := hu; rfl) hm (by decide) hbase
    refine ⟨v', w', r1, ?_, r3, r4⟩
    unfold SRow
    rw [List.length_append, List.map_append]
    exact r2
theorem step_appS {w : World} {ops : Array Oper} {o : Oper} {a : Act} {K : Act → World → Prop} {Q : Exit → Act → World → Prop} {E : Prop} (hgd : o.guard = none) (s x : Operand)
    (ho : o.op = .call { callee := .builtin .append, args := #[s, x], argTypes := #[58, 58] })
    (base : Nat) (v : Value) (xs : List ByteArray) (hs : a.eval s = v) (hown : SRow base w v xs) (xv : Value) (us : List ByteArray) (hxv : a.eval x = xv) (hx : SSrc w xv us)
    (hm : xs.length + us.length ≤ 10000000) (hbase : base ≤ w.heap.size)
    (h : ∀ v' w', SRow base w' v' (xs ++ us) → w.grownBy w' v.ownBlock → (∀ k, v'.ownBlock = some k → v.ownBlock = some k ∨ w.heap.size ≤ k) → K (a.put o.dst v') w') :
    if Region.wanted o (yielded ops a.tmps) = true then Oper.wp Tryz.prog o a w K Q else E := by
  have hw : Region.wanted o (yielded ops a.tmps) = true := by simp [Region.wanted, hgd]
  rw [if_pos hw]
  obtain ⟨v', w', hr, h2, h3, h4⟩ := run_appS (w := w) base o.type v xs hown xv us hx hm hbase
  unfold Oper.wp execOp
  simp only [ho, resolve, invoke, builtin, Sem.run_bind, Sem.run_pure, Result.andThen_ok, List.map_toArray, List.map_cons, List.map_nil, hs, hxv, hr]
  exact h v' w' h2 h3 h4
theorem SRow.strs {B : Nat} {w : World} {v : Value} {us : List ByteArray} (h : SRow B w v us) (hm : us.length ≤ 10000000) : Strs w v us := by
  have h0 := h
  rcases h.2 with ⟨rfl, hz⟩ | ⟨g, cap, cur, rfl, hbg, hh, hc1, hc2, hc3, hc4⟩
  · exact ⟨none, 0, by rw [hz], by omega, by omega, fun h => absurd h (by omega)⟩
  · refine ⟨_, cap, rfl, ?_, ?_, fun _ => ⟨g, 0, rfl, fun j hj => ?_⟩⟩
    · first | omega | exact hc1
    · first | omega | (unfold maxLen at *; omega)
    · have := World.ownsRow.cells h0 (g := g) rfl j (.string us[j]) (by simp [hj])
      rw [addr_addK] at this
      exact this
end
end Go.Proofs.YtjhmgjimppflhaaGreatDoor
namespace Go.Proofs.YtjhmgjimppflhaaGreatDoor
set_option linter.unusedVariables false
set_option linter.unusedSimpArgs false
set_option maxRecDepth 100000
set_option maxHeartbeats 16000000
section
open Go.RowKit
theorem ssrc_cell {w : World} {b : Nat} {x : ByteArray} (h : w.cell? ⟨b, 0, none⟩ = some (.string x)) : SSrc w (.slice (some ⟨b, 0, none⟩) 1 1) [x] := by
  refine ⟨_, 1, rfl, (fun h => by cases h), fun ad had j u hj => ?_⟩
  obtain rfl := Option.some.inj had
  have hl : j = 0 := by
    have := (List.getElem?_eq_some_iff.1 hj).1
    simp at this
    omega
  subst hl
  simp at hj
  rw [addr_addK, ← hj]
  exact h
/-- Two new blocks of a world: an empty one and one that holds a text, in either order. -/
theorem appA (W : World) (v : Value) (us : List ByteArray) (h : Strs W v us) : SRow W.heap.size (W.drew.alloc (.cells #[] 9)) (.slice (some ⟨W.heap.size, 0, none⟩) 0 0) [] ∧ SSrc (W.drew.alloc (.cells #[] 9)) v us ∧ Below W.heap.size W (W.drew.alloc (.cells #[] 9)) := by
  have hb : Below W.heap.size W (W.drew.alloc (.cells #[] 9)) := ((Below.refl W.heap.size W).drew).alloc (Nat.le_refl _) _
  exact ⟨srow_lit W.drew _ (Nat.le_refl _), (h.below hb).src, hb⟩
theorem appB (W : World) (v : Value) (us : List ByteArray) (x : ByteArray) (h : Strs W v us) : SRow W.heap.size ((W.drew.alloc (.cells #[] 9)).alloc (.cells #[.string x] 9)) (.slice (some ⟨W.heap.size, 0, none⟩) 0 0) [] ∧ SSrc ((W.drew.alloc (.cells #[] 9)).alloc (.cells #[.string x] 9)) v us ∧ Below W.heap.size W ((W.drew.alloc (.cells #[] 9)).alloc (.cells #[.string x] 9)) ∧ ((W.drew.alloc (.cells #[] 9)).alloc (.cells #[.string x] 9)).cell? ⟨W.heap.size + 1, 0, none⟩ = some (.string x) := by
  have hb1 : Below W.heap.size W (W.drew.alloc (.cells #[] 9)) := ((Below.refl W.heap.size W).drew).alloc (Nat.le_refl _) _
  have hb : Below W.heap.size W ((W.drew.alloc (.cells #[] 9)).alloc (.cells #[.string x] 9)) := hb1.alloc hb1.size _
  exact ⟨(srow_lit W.drew _ (Nat.le_refl _)).below ((Below.refl _ _).alloc (Nat.le_refl _) _), (h.below hb).src, hb, (World.cell?_alloc_at _ _ _ _ (by simp)).trans rfl⟩
theorem appC (W : World) (v : Value) (us : List ByteArray) (x : ByteArray) (h : Strs W v us) : SRow W.heap.size ((W.drew.alloc (.cells #[.string x] 9)).alloc (.cells #[] 9)) (.slice (some ⟨W.heap.size + 1, 0, none⟩) 0 0) [] ∧ SSrc ((W.drew.alloc (.cells #[.string x] 9)).alloc (.cells #[] 9)) v us ∧ Below W.heap.size W ((W.drew.alloc (.cells #[.string x] 9)).alloc (.cells #[] 9)) ∧ ((W.drew.alloc (.cells #[.string x] 9)).alloc (.cells #[] 9)).cell? ⟨W.heap.size, 0, none⟩ = some (.string x) := by
  have hb1 : Below W.heap.size W (W.drew.alloc (.cells #[.string x] 9)) := ((Below.refl W.heap.size W).drew).alloc (Nat.le_refl _) _
  have hb : Below W.heap.size W ((W.drew.alloc (.cells #[.string x] 9)).alloc (.cells #[] 9)) := hb1.alloc hb1.size _
  have h1 := srow_lit (W.drew.alloc (.cells #[.string x] 9)) W.heap.size (by simp)
  have e : (W.drew.alloc (.cells #[.string x] 9)).heap.size = W.heap.size + 1 := by simp
  rw [e] at h1
  refine ⟨h1, (h.below hb).src, hb, ?_⟩
  rw [World.cell?_alloc_lt _ _ ⟨W.heap.size, 0, none⟩ (by simp)]
  exact (World.cell?_alloc_at _ _ _ _ (by simp)).trans rfl
/-- Behind an append into a row of its own. -/
theorem appN {W W1 w1 : World} {v : Value} {xs : List ByteArray} (hb : Below W.heap.size W W1) (hr : SRow W.heap.size W1 v xs) (hg : W1.grownBy w1 v.ownBlock) : Below W.heap.size W w1 := hb.grown hg hb.size (fun j hj => (World.ownsRow.lt hr j hj).1)
end
end Go.Proofs.YtjhmgjimppflhaaGreatDoor
