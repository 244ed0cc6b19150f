import Derived.Test.YtjhmgjimppflhaaGreatDoorY48
import Derived.Deep.RegionHeld3
set_option linter.unusedSectionVars false
variable [Inhabited Go.Proofs.YtjhmgjimppflhaaGreatDoor.Pick]
namespace Go.Proofs.YtjhmgjimppflhaaGreatDoor
set_option linter.unusedVariables false
set_option linter.unusedSimpArgs false
set_option maxRecDepth 100000
set_option maxHeartbeats 16000000
section
open Go.RowKit
theorem lit4 {S : Nat → Prop} {w w' : World} {t : TypeId} (h : Tcs S (w.alloc (.cells #[.int .i64 3, .int .i64 4, .int .i64 13, .int .i64 15] t)) w') (hS : ∀ k, S k → k < w.heap.size) (y : Nat) (hy : y < 4) : ∃ v : Int, w'.cell? ⟨w.heap.size, y, none⟩ = some (.int .i64 v) := by
 have e : ∀ o, w'.cell? ⟨w.heap.size, o, none⟩ = (w.alloc (.cells #[.int .i64 3, .int .i64 4, .int .i64 13, .int .i64 15] t)).cell? ⟨w.heap.size, o, none⟩ := fun o => World.cell?_of_block (a := ⟨w.heap.size, o, none⟩) (h.block w.heap.size (by simp) (fun s => by have := hS _ s; omega))
 have : y = 0 ∨ y = 1 ∨ y = 2 ∨ y = 3 := by omega
 rcases this with rfl | rfl | rfl | rfl
 ·exact ⟨3, (e 0).trans (by simp)⟩
 ·exact ⟨4, (e 1).trans (by simp)⟩
 ·exact ⟨13, (e 2).trans (by simp)⟩
 ·exact ⟨15, (e 3).trans (by simp)⟩
theorem xpt3 {x : Int} (h : 0 ≤ x ∧ x < 3) : xpt (1 + x).toNat ≤ 345 := by
 have : x = 0 ∨ x = 1 ∨ x = 2 := by omega
 rcases this with rfl | rfl | rfl <;> decide
set_option maxRecDepth 100000 in
set_option maxHeartbeats 8000000 in
theorem whole_any (g : Nat) (a : Option Addr) (len cap : Nat) (S : Nat → Prop) (G : Gn) (K : Nat) (w : World) (hl : len ≤ 1048576) (hL : Lo g a len S w.heap.size) (hc : Cur g a len cap w) (hG : GnOk S w G K) (hK : K ≤ 50000) :
  Calls Tryz.prog 46 #[.pointer (some ⟨g, 0, none⟩), .agg #[G.vc, G.vp, G.vs, G.vl, .int .i64 G.m]] w fun e w' => ∃ u ns, e = .returned u ∧ NRow w.heap.size w' u ns ∧ okN ns 400 ∧ Dr g a len cap S w w' := by
 have hS := hL.sg
 obtain ⟨vc, vp, vs, vl, m, cs, ps, ss, ls⟩ := G
 have HG : Hid (GnOk S w ⟨vc, vp, vs, vl, m, cs, ps, ss, ls⟩ K) := hG
 obtain ⟨ac, cc, e1, -⟩ := hG.c w (Tcs.refl _ _)
 obtain ⟨ap, cp, e2, -⟩ := hG.p w (Tcs.refl _ _)
 obtain ⟨av, cv, e3, -⟩ := hG.s w (Tcs.refl _ _)
 obtain ⟨al, cl, e4, -⟩ := hG.l w (Tcs.refl _ _)
 dsimp only at e1 e2 e3 e4
 subst e1 e2 e3 e4
 dsimp only
 clear hG
 generalize hW0 : w.alloc (.cells #[.slice ac cs.length cc, .slice ap ps.length cp, .slice av ss.length cv, .slice al ls.length cl, .int .i64 m] 80) = W0
 have HW0 : Hid (w.alloc (.cells #[.slice ac cs.length cc, .slice ap ps.length cp, .slice av ss.length cv, .slice al ls.length cl, .int .i64 m] 80) = W0) := hW0
 have HD0 : Hid (Dr g a len cap S w W0) := by rw [← hW0]; exact (Dr.refl hc).alloc _
 have HX : Hid (∀ W, Tcs S W0 W → W.cell? ⟨w.heap.size, 0, none⟩ = some (.slice ac cs.length cc) ∧ W.cell? ⟨w.heap.size, 1, none⟩ = some (.slice ap ps.length cp) ∧ W.cell? ⟨w.heap.size, 2, none⟩ = some (.slice av ss.length cv) ∧ W.cell? ⟨w.heap.size, 3, none⟩ = some (.slice al ls.length cl) ∧ W.cell? ⟨w.heap.size, 4, none⟩ = some (.int .i64 m)) := fun W hW => by rw [← hW0] at hW; exact (box5 hW hL.s)
 have HLo : Hid (Lo g a len S w.heap.size) := hL
 have HGn : Hid (∀ W, Tcs S W0 W → GnOk S W ⟨.slice ac cs.length cc, .slice ap ps.length cp, .slice av ss.length cv, .slice al ls.length cl, m, cs, ps, ss, ls⟩ K) := fun W h => HG.out.tcs (HD0.out.tcs.trans h)
 have HL0 : Hid (Lo g a len S W0.heap.size) := hL.mono HD0.out.tcs.size
 have hlt0 : w.heap.size < W0.heap.size := by rw [← hW0]; simp
 clear hW0 hc hL
 go_enter Tryz.func46, Tryz.ntmps46
 go_upto_region 1 with fail
 rw [HW0.out]
 obtain ⟨x0, x1, x2, x3, x4⟩ := HX.out W0 (Tcs.refl _ _)
 have hCd : Cur g a len cap W0.drew := HD0.out.cur.below (Below.refl _ _).drew
 have HCd : Hid (Cur g a len cap W0.drew) := hCd
 clear hCd
 go_region_held3 (fun W => W.cell? ⟨w.heap.size, 0, none⟩ = some (.slice ac cs.length cc) ∧ W.cell? ⟨w.heap.size, 1, none⟩ = some (.slice ap ps.length cp) ∧ W.cell? ⟨w.heap.size, 2, none⟩ = some (.slice av ss.length cv) ∧ W.cell? ⟨w.heap.size, 3, none⟩ = some (.slice al ls.length cl) ∧ W.cell? ⟨w.heap.size, 4, none⟩ = some (.int .i64 m)) (go_simp)
  (first
  | (go_at_call 20; refine (below_any g a len cap S _ _ hl hS HCd.out (by omega)).mono ?_; rintro e w1 ⟨x, rfl, hx, hd1⟩; have HD1 : Hid (Dr g a len cap S W0 w1) := ⟨hd1.cur, ((Tcs.refl S W0).drew).trans hd1.tcs⟩; obtain ⟨y0, y1, y2, y3, y4⟩ := HX.out w1 HD1.out.tcs; clear hd1)
  | (go_at_call 77; refine (expr_any g a len cap S hl (1 + x).toNat (by omega) _ ⟨.slice ac cs.length cc, .slice ap ps.length cp, .slice av ss.length cv, .slice al ls.length cl, m, cs, ps, ss, ls⟩ K w1 (by simp only [IntKind.wrap_i64]; omega) (HL0.out.mono HD1.out.tcs.size) HD1.out.cur (HGn.out _ HD1.out.tcs) hK).mono ?_; rintro e w2 ⟨u2, e2, rfl, hr2, hn2, hd2⟩; have HD2 : Hid (Dr g a len cap S W0 w2) := HD1.out.trans hd2; have HR2 : Hid (NRow W0.heap.size w2 u2 e2) := own_low hr2 HD1.out.tcs.size; have HN2 : Hid (okN e2 345) := hn2.more (xpt3 hx); obtain ⟨z0, z1, z2, z3, z4⟩ := HX.out w2 HD2.out.tcs; clear hr2 hn2 hd2))
 clear x0 x1 x2 x3 x4 y0 y1 y2 y3 y4 HCd
 have HFin : Hid (∀ w' u ns, NRow W0.heap.size w' u ns → okN ns 400 → Dr g a len cap S W0 w' → NRow w.heap.size w' u ns ∧ okN ns 400 ∧ Dr g a len cap S w w') := fun w' u ns h1 h2 h3 => ⟨own_low h1 HD0.out.tcs.size, h2, HD0.out.trans h3⟩
 go_wp2_with fail
 refine (once_any g a len cap S _ _ hl hS HD2.out.cur (by omega)).mono ?_
 rintro e w3 ⟨q, rfl, hd3⟩
 have HD3 : Hid (Dr g a len cap S W0 w3) := HD2.out.trans hd3
 have HR3 : Hid (NRow W0.heap.size w3 u2 e2) := own_tcs HR2.out hd3.tcs HL0.out.s
 clear hd3 z0 z1 z2 z3 z4
 cases q with
 | false =>
  have HF := HFin.out w3 u2 e2 HR3.out (HN2.out.more (by omega)) HD3.out
  have HF' : Hid _ := HF
  clear HF
  go_wp2_with fail
  go_ret
  exact ⟨_, _, rfl, HF'.out.1, HF'.out.2.1, HF'.out.2.2⟩
 | true =>
  go_wp2_with fail
  go_loopw [5, 6] (fun ov i wr => ∃ j : Nat, j ≤ 7 ∧ i = .int .i64 j ∧ ∃ ns : List Nd, NRow W0.heap.size wr ov ns ∧ okN ns (345 + 2 * j) ∧ Dr g a len cap S W0 wr) (fun _ i _ => 8 - (RowKit.intOf i).toNat)
  case atStart => exact ⟨0, by omega, rfl, e2, HR3.out, HN2.out, HD3.out⟩
  case round =>
   obtain ⟨j, hj, rfl, ns, hr, hn, hdr⟩ := hrel
   have HR : Hid (NRow W0.heap.size wr _ ns) := hr
   have HN : Hid (okN ns (345 + 2 * j)) := hn
   have HDr : Hid (Dr g a len cap S W0 wr) := hdr
   have hnl : ns.length ≤ 359 := Nat.le_trans hn.1 (by omega)
   clear hr hn hdr
   go_wp2_with fail
   refine (below_any g a len cap S _ _ hl hS HDr.out.cur (by omega)).mono ?_
   rintro e w4 ⟨y, rfl, hy, hd4⟩
   have HD4 : Hid (Dr g a len cap S W0 w4) := HDr.out.trans hd4
   have HR4 : Hid (NRow W0.heap.size w4 _ ns) := own_tcs HR.out hd4.tcs HL0.out.s
   have hs4 : W0.heap.size ≤ w4.heap.size := HD4.out.tcs.size
   clear hd4
   by_cases hlt : (j : Int) < 4 + y
   ·obtain ⟨x0, x1, x2, x3, x4⟩ := HX.out w4 HD4.out.tcs
    go_wp2_with fail
    refine (leaf_any g a len cap S ⟨.slice ac cs.length cc, .slice ap ps.length cp, .slice av ss.length cv, .slice al ls.length cl, m, cs, ps, ss, ls⟩ K w4 hl (HL0.out.mono hs4) HD4.out.cur (HGn.out _ HD4.out.tcs) hK).mono ?_
    rintro e w5 ⟨u5, e5, rfl, hr5, hn5, hd5⟩
    have HD5 : Hid (Dr g a len cap S W0 w5) := HD4.out.trans hd5
    have HN5 : Hid (okN e5 1) := hn5
    have hl5 : e5.length ≤ 1 := hn5.1
    have HK5 : Hid (∀ W, Tcs S w5 W → Nodes W u5 e5) := nrow_fz hr5 (HL0.out.mono hs4).s
    have HK4 : Hid (∀ W, Tcs S w5 W → Nodes W _ ns) := fun W hW => nrow_fz HR4.out HL0.out.s W (hd5.tcs.trans hW)
    have hs5 : W0.heap.size ≤ w5.heap.size := HD5.out.tcs.size
    clear hr5 hn5 hd5 x0 x1 x2 x3 x4
    go_wp2_with fail
    refine (below_any g a len cap S _ _ hl hS (HD5.out.alloc _).cur (by omega)).mono ?_
    rintro e w6 ⟨z, rfl, hz, hd6⟩
    have HD6 : Hid (Dr g a len cap S W0 w6) := (HD5.out.alloc _).trans hd6
    have hT6 : Tcs S w5 w6 := ((Tcs.refl S w5).alloc _).trans hd6.tcs
    have HK6 : Hid (Nodes w6 u5 e5 ∧ Nodes w6 _ ns) := ⟨HK5.out w6 hT6, HK4.out w6 hT6⟩
    obtain ⟨zn, rfl⟩ : ∃ zn : Nat, z = zn := ⟨z.toNat, by omega⟩
    obtain ⟨vz, hvz⟩ := lit4 hd6.tcs (HL0.out.mono hs5).s zn (by omega)
    clear hd6 hT6 HK5 HK4
    go_wp2_with fail
    refine (join_any e5 ns _ _ _ u5 _ _ HK6.out.1 HK6.out.2 (by omega)).mono ?_
    rintro e w7 ⟨u7, rfl, hr7, hb7⟩
    have HE : Hid (NRow W0.heap.size w7 u7 (e5 ++ ns ++ [⟨7, vz, ⟨#[]⟩⟩]) ∧ okN (e5 ++ ns ++ [⟨7, vz, ⟨#[]⟩⟩]) (345 + 2 * (j + 1)) ∧ Dr g a len cap S W0 w7) := ⟨own_low hr7 HD6.out.tcs.size, okN.more ((HN5.out.app HN.out).app (okN.one (by decide))) (by omega), HD6.out.below hb7⟩
    clear hr7 hb7 hvz
    go_wp2_with fail
    go_roundw
    case rel => exact ⟨j + 1, by omega, by go_num, _, HE.out.1, HE.out.2.1, HE.out.2.2⟩
    case measure => simp [RowKit.intOf]; omega
   ·have HF := HFin.out w4 _ ns HR4.out (HN.out.more (by omega)) HD4.out
    have HF' : Hid _ := HF
    clear HF
    go_wp2_with fail
    go_ret
    exact ⟨_, _, rfl, HF'.out.1, HF'.out.2.1, HF'.out.2.2⟩
end
section
open Go.RowKit
def S0 (g : Nat) : Nat → Prop := fun k => k = g
def Sq (g q : Nat) : Nat → Prop := fun k => k = g ∨ k = q
theorem s0q {g q : Nat} : ∀ k, S0 g k → Sq g q k := fun k h => .inl h
structure GB (q : Nat) (w : World) (G : Gn) : Prop where
 c0 : w.cell? ⟨q, 0, none⟩ = some G.vc
 c1 : w.cell? ⟨q, 1, none⟩ = some G.vp
 c2 : w.cell? ⟨q, 2, none⟩ = some G.vs
 c3 : w.cell? ⟨q, 3, none⟩ = some G.vl
 c4 : w.cell? ⟨q, 4, none⟩ = some (.int .i64 G.m)
 fz : ∀ j, w.frozen? ⟨q, j, none⟩ = false
theorem GB.keep {q : Nat} {w w' : World} {G : Gn} (h : GB q w G) (hb : w'.heap[q]? = w.heap[q]?) : GB q w' G :=
 ⟨(World.cell?_of_block (a := ⟨q, 0, none⟩) hb).trans h.c0, (World.cell?_of_block (a := ⟨q, 1, none⟩) hb).trans h.c1, (World.cell?_of_block (a := ⟨q, 2, none⟩) hb).trans h.c2, (World.cell?_of_block (a := ⟨q, 3, none⟩) hb).trans h.c3, (World.cell?_of_block (a := ⟨q, 4, none⟩) hb).trans h.c4, fun o => (World.frozen?_of_block (a := ⟨q, o, none⟩) hb).trans (h.fz o)⟩
theorem GB.lt {q : Nat} {w : World} {G : Gn} (h : GB q w G) : q < w.heap.size := World.block_lt_of_cell? _ _ h.c0
theorem offN {g a b : Nat} (h : a ≠ b) : (⟨g, a, none⟩ : Addr) ≠ ⟨g, b, none⟩ := fun e => by simp [h] at e
theorem GB.set2 {q : Nat} {w : World} {G : Gn} (h : GB q w G) (v : Value) (ss : List ByteArray) : GB q (w.setCell ⟨q, 2, none⟩ v) { G with vs := v, ss := ss } :=
 ⟨(World.cell?_setCell_other _ _ _ _ (offN (by decide))).trans h.c0, (World.cell?_setCell_other _ _ _ _ (offN (by decide))).trans h.c1, World.cell?_setCell_same _ _ _ h.c2, (World.cell?_setCell_other _ _ _ _ (offN (by decide))).trans h.c3, (World.cell?_setCell_other _ _ _ _ (offN (by decide))).trans h.c4, fun o => by simpa using h.fz o⟩
theorem GB.set3 {q : Nat} {w : World} {G : Gn} (h : GB q w G) (v : Value) (ls : List ByteArray) : GB q (w.setCell ⟨q, 3, none⟩ v) { G with vl := v, ls := ls } :=
 ⟨(World.cell?_setCell_other _ _ _ _ (offN (by decide))).trans h.c0, (World.cell?_setCell_other _ _ _ _ (offN (by decide))).trans h.c1, (World.cell?_setCell_other _ _ _ _ (offN (by decide))).trans h.c2, World.cell?_setCell_same _ _ _ h.c3, (World.cell?_setCell_other _ _ _ _ (offN (by decide))).trans h.c4, fun o => by simpa using h.fz o⟩
theorem GB.set4 {q : Nat} {w : World} {G : Gn} (h : GB q w G) (z : Int) : GB q (w.setCell ⟨q, 4, none⟩ (.int .i64 z)) { G with m := z } :=
 ⟨(World.cell?_setCell_other _ _ _ _ (offN (by decide))).trans h.c0, (World.cell?_setCell_other _ _ _ _ (offN (by decide))).trans h.c1, (World.cell?_setCell_other _ _ _ _ (offN (by decide))).trans h.c2, (World.cell?_setCell_other _ _ _ _ (offN (by decide))).trans h.c3, World.cell?_setCell_same _ _ _ h.c4, fun o => by simpa using h.fz o⟩
structure GS (g : Nat) (a : Option Addr) (len cap q : Nat) (S : Nat → Prop) (w : World) (G : Gn) (K : Nat) : Prop where
 cur : Cur g a len cap w
 box : GB q w G
 ok : GnOk S w G K
 lo : Lo g a len S w.heap.size
 sq : S q
 ne : q ≠ g
theorem GS.lo0 {g : Nat} {a : Option Addr} {len cap q : Nat} {S : Nat → Prop} {w : World} {G : Gn} {K : Nat} (h : GS g a len cap q S w G K) : Lo g a len (S0 g) w.heap.size :=
 ⟨h.lo.gl, rfl, fun b off x y => ⟨(h.lo.by8 b off x y).1, fun e => (h.lo.by8 b off x y).2 (e ▸ h.lo.sg)⟩, fun k hk => h.lo.s k (hk ▸ h.lo.sg)⟩
theorem GS.s0 {g : Nat} {a : Option Addr} {len cap q : Nat} {S : Nat → Prop} {w : World} {G : Gn} {K : Nat} (h : GS g a len cap q S w G K) : ∀ k, S0 g k → S k := fun k hk => hk ▸ h.lo.sg
theorem GS.sqs {g : Nat} {a : Option Addr} {len cap q : Nat} {S : Nat → Prop} {w : World} {G : Gn} {K : Nat} (h : GS g a len cap q S w G K) : ∀ k, Sq g q k → S k := fun k hk => by rcases hk with rfl | rfl; exact h.lo.sg; exact h.sq
theorem GS.ok0 {g : Nat} {a : Option Addr} {len cap q : Nat} {S : Nat → Prop} {w : World} {G : Gn} {K : Nat} (h : GS g a len cap q S w G K) : GnOk (S0 g) w G K := h.ok.less h.s0
theorem GS.dr {g : Nat} {a : Option Addr} {len cap q : Nat} {S : Nat → Prop} {w w' : World} {G : Gn} {K : Nat} (h : GS g a len cap q S w G K) (hd : Dr g a len cap (S0 g) w w') : GS g a len cap q S w' G K :=
 ⟨hd.cur, h.box.keep (hd.tcs.block q h.box.lt h.ne), h.ok.tcs (hd.tcs.mono h.s0), h.lo.mono hd.tcs.size, h.sq, h.ne⟩
theorem GS.below {g : Nat} {a : Option Addr} {len cap q : Nat} {S : Nat → Prop} {w w' : World} {G : Gn} {K : Nat} (h : GS g a len cap q S w G K) (hb : Below w.heap.size w w') : GS g a len cap q S w' G K := h.dr ⟨h.cur.below hb, hb.tcs⟩
theorem GS.alloc {g : Nat} {a : Option Addr} {len cap q : Nat} {S : Nat → Prop} {w : World} {G : Gn} {K : Nat} (h : GS g a len cap q S w G K) (o : Obj) : GS g a len cap q S (w.alloc o) G K := h.below ((Below.refl _ _).alloc (Nat.le_refl _) o)
def Sv (S : Nat → Prop) (v : Value) : Nat → Prop := fun k => S k ∨ v.ownBlock = some k
theorem GS.add {g : Nat} {a : Option Addr} {len cap q : Nat} {S : Nat → Prop} {w0 w : World} {G : Gn} {K : Nat} {v : Value} (h : GS g a len cap q S w0 G K) (h' : GS g a len cap q S w G K) (ht : Tcs S w0 w) (hv : ∀ k, v.ownBlock = some k → w0.heap.size ≤ k ∧ k < w.heap.size) : GS g a len cap q (Sv S v) w G K := by
 refine ⟨h'.cur, h'.box, ?_, ⟨h'.lo.gl, .inl h'.lo.sg, fun b off x y => ⟨(h'.lo.by8 b off x y).1, fun e => ?_⟩, fun k hk => ?_⟩, .inl h'.sq, h'.ne⟩
 ·have key : ∀ W, Tcs (Sv S v) w W → Tcs S w0 W := fun W hW => ht.next hW fun k hk => by
   rcases hk with hk | hk
   ·exact .inl hk
   ·exact .inr (hv k hk).1
  exact ⟨fun W hW => h.ok.c W (key W hW), fun W hW => h.ok.p W (key W hW), fun W hW => h.ok.s W (key W hW), fun W hW => h.ok.l W (key W hW), h.ok.cp, h.ok.c4, h.ok.pb, h.ok.ns, h.ok.sl, h.ok.ll, h.ok.mb⟩
 ·rcases e with e | e
  ·exact (h'.lo.by8 b off x y).2 e
  ·have := (hv b e).1
   have := (h.lo.by8 b off x y).1
   omega
 ·rcases hk with hk | hk
  ·exact h'.lo.s k hk
  ·exact (hv k hk).2
theorem GS.app {g : Nat} {a : Option Addr} {len cap q : Nat} {S : Nat → Prop} {w w' : World} {G : Gn} {K B : Nat} {v v' : Value} (h : GS g a len cap q (Sv S v) w G K) (hL : Lo g a len S B) (hq : S q) (hv : ∀ k, v.ownBlock = some k → B ≤ k) (ht : Tcs (fun k => v.ownBlock = some k) w w') (hf : ∀ k, v'.ownBlock = some k → v.ownBlock = some k ∨ w.heap.size ≤ k) (hlt : ∀ k, v'.ownBlock = some k → k < w'.heap.size) : GS g a len cap q (Sv S v') w' G K := by
 have key : ∀ W, Tcs (Sv S v') w' W → Tcs (Sv S v) w W := fun W hW => (ht.mono fun k hk => .inr hk).next hW fun k hk => by
  rcases hk with hk | hk
  ·exact .inl (.inl hk)
  ·rcases hf k hk with h1 | h1
   ·exact .inl (.inr h1)
   ·exact .inr h1
 have hqB := hL.s q hq
 refine ⟨h.cur.new hL ht hv, h.box.keep (ht.block q h.box.lt (fun s => by have := hv q s; omega)), ⟨fun W hW => h.ok.c W (key W hW), fun W hW => h.ok.p W (key W hW), fun W hW => h.ok.s W (key W hW), fun W hW => h.ok.l W (key W hW), h.ok.cp, h.ok.c4, h.ok.pb, h.ok.ns, h.ok.sl, h.ok.ll, h.ok.mb⟩, ⟨?_, .inl hL.sg, fun b off x y => ⟨?_, fun e => ?_⟩, fun k hk => ?_⟩, .inl hq, h.ne⟩
 ·have := h.lo.gl; have := ht.size; omega
 ·have := (h.lo.by8 b off x y).1; have := ht.size; omega
 ·rcases e with e | e
  ·exact (h.lo.by8 b off x y).2 (.inl e)
  ·rcases hf b e with h1 | h1
   ·exact (h.lo.by8 b off x y).2 (.inr h1)
   ·have := (h.lo.by8 b off x y).1; omega
 ·rcases hk with hk | hk
  ·have := h.lo.s k (.inl hk); have := ht.size; omega
  ·exact hlt k hk
theorem GS.sub {g : Nat} {a : Option Addr} {len cap q : Nat} {S S' : Nat → Prop} {w : World} {G : Gn} {K : Nat} (h : GS g a len cap q S w G K) (hs : ∀ k, S' k → S k) (hg : S' g) (hq : S' q) : GS g a len cap q S' w G K :=
 ⟨h.cur, h.box, h.ok.less hs, ⟨h.lo.gl, hg, fun b off x y => ⟨(h.lo.by8 b off x y).1, fun e => (h.lo.by8 b off x y).2 (hs b e)⟩, fun k hk => h.lo.s k (hs k hk)⟩, hq, h.ne⟩
theorem GS.drop {g : Nat} {a : Option Addr} {len cap q : Nat} {S : Nat → Prop} {w : World} {G : Gn} {K : Nat} {v : Value} (h : GS g a len cap q (Sv S v) w G K) (hg : S g) (hq : S q) : GS g a len cap q S w G K :=
 ⟨h.cur, h.box, h.ok.less fun k hk => .inl hk, ⟨h.lo.gl, hg, fun b off x y => ⟨(h.lo.by8 b off x y).1, fun e => (h.lo.by8 b off x y).2 (.inl e)⟩, fun k hk => h.lo.s k (.inl hk)⟩, hq, h.ne⟩
theorem GS.more {g : Nat} {a : Option Addr} {len cap q : Nat} {S : Nat → Prop} {w : World} {G : Gn} {K K' : Nat} (h : GS g a len cap q S w G K) (hk : K ≤ K') : GS g a len cap q S w G K' := ⟨h.cur, h.box, h.ok.more hk, h.lo, h.sq, h.ne⟩
theorem GS.set {g : Nat} {a : Option Addr} {len cap q : Nat} {S : Nat → Prop} {w : World} {G G' : Gn} {K K' : Nat} {o : Nat} {v : Value} (h : GS g a len cap q S w G K) (hb : GB q (w.setCell ⟨q, o, none⟩ v) G') (hG : GnOk S w G' K') : GS g a len cap q S (w.setCell ⟨q, o, none⟩ v) G' K' :=
 have ht : Tcs S w (w.setCell ⟨q, o, none⟩ v) := (Tcs.refl _ _).setCell (p := ⟨q, o, none⟩) h.sq v
 have ht2 : Tcs (fun k => k = q) w (w.setCell ⟨q, o, none⟩ v) := (Tcs.refl (fun k => k = q) w).setCell (p := ⟨q, o, none⟩) rfl v
 ⟨h.cur.keep ht2 (fun e => h.ne e.symm) (fun b off x y e => (h.lo.by8 b off x y).2 (e ▸ h.sq)), hb, hG.tcs ht, h.lo.mono ht.size, h.sq, h.ne⟩
theorem set_sq {g q o : Nat} (w : World) (v : Value) : Tcs (Sq g q) w (w.setCell ⟨q, o, none⟩ v) := (Tcs.refl _ _).setCell (p := ⟨q, o, none⟩) (.inr rfl) v
theorem GnOk.setM {S : Nat → Prop} {w : World} {G : Gn} {K : Nat} (h : GnOk S w G K) : GnOk S w { G with m := G.m + 1 } (K + 1) :=
 ⟨h.c, h.p, h.s, h.l, h.cp, h.c4, h.pb, h.ns, Nat.le_trans h.sl (Nat.le_succ _), Nat.le_trans h.ll (Nat.le_succ _), by have := h.mb; show 0 ≤ G.m + 1 ∧ G.m + 1 ≤ ((K + 1 : Nat) : Int); omega⟩
theorem GnOk.setS {S : Nat → Prop} {w : World} {G : Gn} {K : Nat} (h : GnOk S w G K) {v : Value} {ss : List ByteArray} (hs : ∀ W, Tcs S w W → Strs W v ss) (hn : ∀ x ∈ ss, x.size ≤ 100000) (hl : ss.length ≤ K) : GnOk S w { G with vs := v, ss := ss } K :=
 ⟨h.c, h.p, hs, h.l, h.cp, h.c4, h.pb, ⟨h.ns.1, hn, h.ns.2.2⟩, hl, h.ll, h.mb⟩
theorem GnOk.setL {S : Nat → Prop} {w : World} {G : Gn} {K : Nat} (h : GnOk S w G K) {v : Value} {ls : List ByteArray} (hs : ∀ W, Tcs S w W → Strs W v ls) (hn : ∀ x ∈ ls, x.size ≤ 100000) (hl : ls.length ≤ K) : GnOk S w { G with vl := v, ls := ls } K :=
 ⟨h.c, h.p, h.s, hs, h.cp, h.c4, h.pb, ⟨h.ns.1, h.ns.2.1, hn⟩, h.sl, hl, h.mb⟩
theorem tx_cat (s : ByteArray) : ((⟨#[118]⟩ : ByteArray) ++ s).size = s.size + 1 := by
 rw [ByteArray.size_append]
 show 1 + s.size = _
 omega
set_option maxRecDepth 100000 in
set_option maxHeartbeats 2000000 in
theorem newName_any (g : Nat) (a : Option Addr) (len cap q : Nat) (S : Nat → Prop) (G : Gn) (K : Nat) (w : World) (h : GS g a len cap q S w G K) (hK : K + 1 ≤ 50000) :
  Calls Tryz.prog 105 #[.pointer (some ⟨q, 0, none⟩)] w fun e w' => ∃ s, e = .returned (.string s) ∧ s.size ≤ 100000 ∧ GS g a len cap q S w' { G with m := G.m + 1 } (K + 1) ∧ Tcs (Sq g q) w w' := by
 have hm := h.ok.mb
 obtain ⟨u, hu⟩ : ∃ u : Nat, G.m + 1 = u := ⟨(G.m + 1).toNat, by omega⟩
 have c4 := h.box.c4
 have f4 := h.box.fz 4
 have HU : Hid (G.m + 1 = u) := hu
 have HN : Hid (GS g a len cap q S (w.setCell ⟨q, 4, none⟩ (.int .i64 (G.m + 1))) { G with m := G.m + 1 } (K + 1)) := h.set (h.box.set4 _) h.ok.setM
 have HT : Hid (Tcs (Sq g q) w (w.setCell ⟨q, 4, none⟩ (.int .i64 (G.m + 1)))) := (Tcs.refl _ _).setCell (p := ⟨q, 4, none⟩) (.inr rfl) _
 have HDg : Hid (∀ W : World, Calls Tryz.prog 44 #[.int .i64 (G.m + 1)] W fun e w' => e = .returned (.string (tx (Lib.decDigits u))) ∧ Below W.heap.size W w') := fun W => by rw [hu]; exact digN_any u u (Nat.le_refl _) (by omega) W
 have hsz : (tx (Lib.decDigits u)).size ≤ 50002 := by
  rw [tx_size]
  have := dec_len u u (Nat.le_refl _)
  omega
 generalize tx (Lib.decDigits u) = A at hsz HDg
 have hsz' : ((A.size : Nat) : Int) ≤ 1000000 := by omega
 have HS : Hid (((⟨#[118]⟩ : ByteArray) ++ A).size ≤ 100000) := by show _ ≤ _; rw [tx_cat]; omega
 have h1 : (⟨#[118]⟩ : ByteArray).size = 1 := rfl
 generalize G.m = m at *
 clear hu hsz h
 go_enter Tryz.func105, Tryz.ntmps105
 go_wp2_with fail
 refine (HDg.out _).mono ?_
 rintro e w2 ⟨rfl, hb2⟩
 have HF : Hid (GS g a len cap q S w2 { G with m := m + 1 } (K + 1) ∧ Tcs (Sq g q) w w2) := ⟨HN.out.below hb2, HT.out.of_below hb2⟩
 clear hb2 c4 f4
 go_wp2_with fail
 go_ret
 exact ⟨_, rfl, HS.out, HF.out.1, HF.out.2⟩
end
section
open Go.RowKit
def PtS (R : List SV) (W : World) : Prop := ∀ x ∈ R, Nodes W x.ve x.s.e ∧ Nodes W x.vf x.s.f
def okS (R : List SV) : Prop := ∀ x ∈ R, okN x.s.e 3000 ∧ okN x.s.f 3000 ∧ x.s.name.size ≤ 100000
structure SR (B : Nat) (w : World) (v : Value) (R : List SV) (L : Nat) : Prop where
 row : DRow 88 6 (fun k => k < B) B w v R.length (flatS R) (PtS R)
 ok : okS R
 len : R.length ≤ L
theorem SR.tcs {S : Nat → Prop} {B : Nat} {w w' : World} {v : Value} {R : List SV} {L : Nat} (h : SR B w v R L) (ht : Tcs S w w') (hS : ∀ k, S k → k < B) : SR B w' v R L := ⟨h.row.tcs (ht.mono hS) (fun k hk => hk), h.ok, h.len⟩
theorem SR.below {B : Nat} {w w' : World} {v : Value} {R : List SV} {L : Nat} (h : SR B w v R L) (hb : Below w.heap.size w w') : SR B w' v R L := ⟨h.row.below hb, h.ok, h.len⟩
theorem SR.low {B B' : Nat} {w : World} {v : Value} {R : List SV} {L : Nat} (h : SR B w v R L) (hb : B' ≤ B) : SR B' w v R L := ⟨(h.row.low hb).less (fun k hk => by omega), h.ok, h.len⟩
theorem SR.more {B : Nat} {w : World} {v : Value} {R : List SV} {L L' : Nat} (h : SR B w v R L) (hl : L ≤ L') : SR B w v R L' := ⟨h.row, h.ok, Nat.le_trans h.len hl⟩
theorem SR.shape {B : Nat} {w : World} {v : Value} {R : List SV} {L : Nat} (h : SR B w v R L) : ∃ a c, v = .slice a R.length c := by
 obtain ⟨a, c, e, -⟩ := own_shape h.row.row
 exact ⟨a, c, e⟩
theorem SR.rng {B : Nat} {w : World} {v : Value} {R : List SV} {L : Nat} (h : SR B w v R L) : ∀ k, v.ownBlock = some k → B ≤ k ∧ k < w.heap.size := fun k hk => World.ownsRow.lt h.row.row k hk
theorem sr_nil (w : World) (B : Nat) (hB : B ≤ w.heap.size) : SR B (w.alloc (.cells #[] 88)) (.slice (some ⟨w.heap.size, 0, none⟩) 0 0) [] 0 :=
 ⟨⟨World.ownsRow_lit w #[] 0 hB (by decide) rfl, fun W _ x hx => by cases hx⟩, (fun x hx => by cases hx), Nat.le_refl _⟩
theorem nodes_none (W : World) : Nodes W (.slice none 0 0) [] := ⟨none, 0, rfl, Nat.le_refl _, by omega, fun h => absurd h (Nat.lt_irrefl _)⟩
theorem nrow_st {B B' : Nat} {w : World} {v : Value} {e : List Nd} (h : NRow B w v e) (hb : B' ≤ B) : ∀ W, Tcs (fun k => k < B') w W → Nodes W v e := nrow_fz h (fun k hk => by omega)
theorem sr_lit {w : World} {B : Nat} {ve vf : Value} {kd th el : Int} {nm : ByteArray} {e f : List Nd} (hB : B ≤ w.heap.size) (hE : ∀ W, Tcs (fun k => k < B) w W → Nodes W ve e) (hF : ∀ W, Tcs (fun k => k < B) w W → Nodes W vf f) (oe : okN e 3000) (of' : okN f 3000) (on : nm.size ≤ 100000) :
  SR B (w.alloc (.cells #[.int .i64 kd, .string nm, ve, vf, .int .i64 th, .int .i64 el] 88)) (.slice (some ⟨w.heap.size, 0, none⟩) 1 1) [⟨⟨kd, nm, e, f, th, el⟩, ve, vf, [], []⟩] 1 := by
 refine ⟨⟨World.ownsRow_lit w #[.int .i64 kd, .string nm, ve, vf, .int .i64 th, .int .i64 el] 1 hB (by decide) rfl, fun W hW x hx => ?_⟩, fun x hx => ?_, Nat.le_refl _⟩
 ·simp only [List.mem_singleton] at hx
  subst hx
  have ht : Tcs (fun k => k < B) w W := ((Tcs.refl _ w).alloc _).next hW fun k hk => by
   rcases hk with hk | hk
   ·exact .inl hk
   ·simp only [Value.ownBlock, Option.some.injEq] at hk
    exact .inr (by omega)
  exact ⟨hE W ht, hF W ht⟩
 ·simp only [List.mem_singleton] at hx
  subst hx
  exact ⟨oe, of', on⟩
theorem sr_app {w : World} {B B2 : Nat} {v u : Value} {R R2 : List SV} {L L2 : Nat} (ty : TypeId) (h : SR B w v R L) (h2 : SR B2 w u R2 L2) (hB : B ≤ w.heap.size) (hm : L + L2 ≤ 1000000)
  (hP2 : ∀ W, Tcs (fun k => k < B ∨ v.ownBlock = some k) w W → PtS R2 W) :
  ∃ v' w', (Builtin.append_ #[59, 59] ty #[v, u]).run Tryz.prog w = .ok v' w' ∧ SR B w' v' (R ++ R2) (L + L2) ∧ Tcs (fun k => v.ownBlock = some k) w w' ∧ ∀ k, v'.ownBlock = some k → v.ownBlock = some k ∨ w.heap.size ≤ k := by
 obtain ⟨i0, hi, hz0, hz1, hz2⟩ := info_parts info_stmt
 obtain ⟨a, c, rfl, hn, hc⟩ := own_shape h2.row.row
 have hlen := h.len
 have hlen2 := h2.len
 obtain ⟨v', w', r1, r2, r3⟩ := drow_app (Pg := Tryz.prog) (w := w) (T := 88) (t := 59) (c := c) (P2 := PtS R2) ty Tryz.underlying59 hi hz0 hz1 hz2 rfl (by decide) h.row a hn (flatS_len R2) hc (flatS_one R2 fun q hq => ⟨(h2.row.now q hq).1.cell1, (h2.row.now q hq).2.cell1⟩) hP2 (by omega) (by decide) hB
 refine ⟨v', w', r1, ⟨⟨by rw [List.length_append, flatS_append]; exact r2.row, fun W hW x hx => ?_⟩, fun x hx => ?_, by rw [List.length_append]; omega⟩, r3⟩
 ·rcases List.mem_append.1 hx with hx | hx
  ·exact (r2.st W hW).1 x hx
  ·exact (r2.st W hW).2 x hx
 ·rcases List.mem_append.1 hx with hx | hx
  ·exact h.ok x hx
  ·exact h2.ok x hx
theorem sr_behind {w : World} {B B2 : Nat} {u v : Value} {R2 : List SV} {L2 : Nat} (h2 : SR B2 w u R2 L2) (hB : B ≤ B2) (hv : ∀ k, v.ownBlock = some k → k < B2) : ∀ W, Tcs (fun k => k < B ∨ v.ownBlock = some k) w W → PtS R2 W := fun W hW =>
 h2.row.st W (hW.mono fun k hk => by
  rcases hk with hk | hk
  ·exact .inl (by omega)
  ·exact .inl (hv k hk))
theorem sr_before {w1 w : World} {B B2 : Nat} {u v : Value} {R2 : List SV} {L2 : Nat} (h2 : SR B2 w1 u R2 L2) (ht : Tcs (fun k => k < B2) w1 w) (hB : B ≤ B2) (hv : ∀ k, v.ownBlock = some k → w1.heap.size ≤ k) : ∀ W, Tcs (fun k => k < B ∨ v.ownBlock = some k) w W → PtS R2 W := fun W hW =>
 h2.row.st W ((ht.mono fun k hk => .inl hk).next hW fun k hk => by
  rcases hk with hk | hk
  ·exact .inl (.inl (by omega))
  ·exact .inr (hv k hk))
def StP (g : Nat) (a : Option Addr) (len cap q : Nat) (S : Nat → Prop) (K L m : Nat) (w : World) (v : Value) (w' : World) : Prop := ∃ R G', SR w.heap.size w' v R L ∧ m ≤ R.length ∧ GS g a len cap q (Sv S v) w' G' (K + L) ∧ Tcs (Sq g q) w w'
def StC (g : Nat) (a : Option Addr) (len cap q d : Nat) : Prop := ∀ (z : Int) (S : Nat → Prop) (G : Gn) (K : Nat) (w : World), z = d → GS g a len cap q S w G K → K + dpt d ≤ 50000 →
  Calls Tryz.prog 76 #[.pointer (some ⟨g, 0, none⟩), .pointer (some ⟨q, 0, none⟩), .int .i64 z] w fun e w' => ∃ v, e = .returned v ∧ StP g a len cap q S K (dpt d) 1 w v w'
end
section
open Go.RowKit
theorem dpt_le {d : Nat} (h : d ≤ 4) : 1 ≤ dpt d ∧ dpt d ≤ 511 := by
 have : d = 0 ∨ d = 1 ∨ d = 2 ∨ d = 3 ∨ d = 4 := by omega
 rcases this with rfl | rfl | rfl | rfl | rfl <;> decide
set_option maxRecDepth 100000 in
set_option maxHeartbeats 4000000 in
theorem block_any (g : Nat) (a : Option Addr) (len cap q d : Nat) (hd : d ≤ 4) (hX : StC g a len cap q d) (n : Nat) (hn : n ≤ 10) (zn zd : Int) (hzn : zn = n) (hzd : zd = d) (S : Nat → Prop) (G : Gn) (K : Nat) (w : World) (h : GS g a len cap q S w G K) (hK : K + n * dpt d ≤ 50000) :
  Calls Tryz.prog 45 #[.pointer (some ⟨g, 0, none⟩), .pointer (some ⟨q, 0, none⟩), .int .i64 zn, .int .i64 zd] w fun e w' => ∃ v, e = .returned v ∧ StP g a len cap q S K (n * dpt d) n w v w' := by
 have hdb := dpt_le hd
 obtain ⟨D, hD⟩ : ∃ D, D = dpt d := ⟨_, rfl⟩
 have HX : Hid (∀ (S : Nat → Prop) (G : Gn) (K : Nat) (w : World), GS g a len cap q S w G K → K + D ≤ 50000 → Calls Tryz.prog 76 #[.pointer (some ⟨g, 0, none⟩), .pointer (some ⟨q, 0, none⟩), .int .i64 zd] w fun e w' => ∃ v, e = .returned v ∧ StP g a len cap q S K D 1 w v w') := fun S G K w h hk => by rw [hD] at hk ⊢; exact hX zd S G K w hzd h hk
 rw [← hD] at hdb hK ⊢
 have HS : Hid (∀ W, Tcs S w W → Strs W G.vs G.ss) := h.ok.s
 have HSn : Hid (∀ x ∈ G.ss, x.size ≤ 100000) := h.ok.ns.2.1
 have HSl : Hid (G.ss.length ≤ K) := h.ok.sl
 have HL : Hid (Lo g a len S w.heap.size) := h.lo
 have HSq : Hid (S q) := h.sq
 have HSS : Hid (∀ k, Sq g q k → S k) := h.sqs
 have HG0 : Hid (GS g a len cap q (Sv S (.slice (some ⟨w.heap.size, 0, none⟩) 0 0)) (w.alloc (.cells #[] 88)) G K) := h.add (h.alloc _) ((Tcs.refl _ _).alloc _) (fun k hk => by simp [Value.ownBlock] at hk; subst hk; simp)
 have c2 : (w.alloc (.cells #[] 88)).cell? ⟨q, 2, none⟩ = some G.vs := (h.alloc _).box.c2
 have c2' : w.cell? ⟨q, 2, none⟩ = some G.vs := h.box.c2
 have hql : q < w.heap.size := h.box.lt
 obtain ⟨avs, cvs, hvs, -⟩ := h.ok.s w (Tcs.refl _ _)
 have HV : Hid (G.vs = .slice avs G.ss.length cvs) := hvs
 rw [hvs] at c2 c2'
 obtain ⟨sl, hsl⟩ : ∃ sl, sl = G.ss.length := ⟨_, rfl⟩
 rw [← hsl] at c2 c2'
 have HV' : Hid (G.vs = .slice avs sl cvs) := by rw [hsl]; exact hvs
 have hzn0 : 0 ≤ zn ∧ zn ≤ 10 := by omega
 have HZn : Hid (zn = n) := hzn
 clear hvs h hX hD hsl hzn hzd
 go_enter Tryz.func45, Tryz.ntmps45
 go_wp2_with fail
 go_loopw [9, 11, 12] (fun ov i mr wr => ∃ j : Nat, j ≤ n ∧ i = .int .i64 j ∧ ∃ (R : List SV) (G' : Gn), SR w.heap.size wr ov R (j * D) ∧ j ≤ R.length ∧ GS g a len cap q (Sv S ov) wr G' (K + j * D) ∧ Tcs (Sq g q) w wr) (fun _ i _ _ => n - (RowKit.intOf i).toNat)
 case atStart => exact ⟨0, by omega, rfl, [], G, by rw [Nat.zero_mul]; exact sr_nil w w.heap.size (Nat.le_refl _), by simp, by rw [Nat.zero_mul]; exact HG0.out, (Tcs.refl _ _).alloc _⟩
 case round =>
  obtain ⟨j, hj, rfl, R, G', hr, hjl, hg, ht⟩ := hrel
  have HR : Hid (SR w.heap.size wr u9 R (j * D)) := hr
  have HGj : Hid (GS g a len cap q (Sv S u9) wr G' (K + j * D)) := hg
  have HT : Hid (Tcs (Sq g q) w wr) := ht
  have HJ : Hid (j ≤ R.length) := hjl
  clear hr hg ht hjl c2 c2' HG0
  by_cases hlt : (j : Int) < zn
  ·have hmul : (j + 1) * D ≤ n * D := Nat.mul_le_mul_right _ (by have := HZn.out; omega)
   have HM : Hid ((j + 1) * D = j * D + D) := Nat.succ_mul j D
   have hnD : n * D ≤ 10 * 511 := Nat.mul_le_mul hn hdb.2
   have hkk : K + j * D + D ≤ 50000 := by have := HM.out; omega
   have hjD : j * D + D ≤ 1000000 := by have := HM.out; omega
   clear hmul hnD
   go_wp2_with fail
   refine (HX.out (Sv S u9) G' (K + j * D) wr HGj.out hkk).mono ?_
   rintro e w2 ⟨u2, rfl, R2, G2, hr2, hl2, hg2, ht2⟩
   have hR' := HR.out.tcs ht2 (fun k hk => HL.out.s k (HSS.out k hk))
   obtain ⟨v3, w3, r3, h3, t3, f3⟩ := sr_app 59 hR' hr2 (Nat.le_trans HT.out.size ht2.size) hjD (sr_behind hr2 HT.out.size (fun k hk => (HR.out.rng k hk).2))
   have HE : Hid (SR w.heap.size w3 v3 (R ++ R2) ((j + 1) * D) ∧ j + 1 ≤ (R ++ R2).length ∧ GS g a len cap q (Sv S v3) w3 G2 (K + (j + 1) * D) ∧ Tcs (Sq g q) w w3) := by
    refine ⟨by rw [HM.out]; exact h3, by rw [List.length_append]; have := HJ.out; omega, ?_, (HT.out.trans ht2).next t3 (fun k hk => .inr (HR.out.rng k hk).1)⟩
    rw [HM.out, ← Nat.add_assoc]
    exact (hg2.drop (.inl HL.out.sg) (.inl HSq.out)).app HL.out HSq.out (fun k hk => (HR.out.rng k hk).1) t3 f3 (fun k hk => (h3.rng k hk).2)
   have Hr3 : Hid _ := r3
   clear hr2 hl2 hg2 ht2 hR' r3 h3 t3 f3
   go_wp2_with (at_builtin; refine wpList_appG rfl _ _ _ rfl _ _ _ _ rfl rfl Hr3.out ?_)
   go_roundw
   case rel => exact ⟨j + 1, by have := HZn.out; omega, by go_num, R ++ R2, G2, HE.out.1, HE.out.2.1, HE.out.2.2.1, HE.out.2.2.2⟩
   case measure => have := HZn.out; simp [RowKit.intOf]; omega
  ·obtain rfl : j = n := by have := HZn.out; omega
   have c2 := HGj.out.box.c2
   have f2 := HGj.out.box.fz 2
   have HF : Hid (SR w.heap.size (wr.setCell ⟨q, 2, none⟩ (.slice avs sl cvs)) u9 R (j * D) ∧ GS g a len cap q (Sv S u9) (wr.setCell ⟨q, 2, none⟩ (.slice avs sl cvs)) { G' with vs := (.slice avs sl cvs), ss := G.ss } (K + j * D) ∧ Tcs (Sq g q) w (wr.setCell ⟨q, 2, none⟩ (.slice avs sl cvs))) := by
    have ht : Tcs (Sq g q) wr (wr.setCell ⟨q, 2, none⟩ (.slice avs sl cvs)) := set_sq wr _
    have hgd := HGj.out
    refine ⟨HR.out.tcs ht (fun k hk => HL.out.s k (HSS.out k hk)), hgd.set (hgd.box.set2 _ _) (hgd.ok.setS (fun W hW => ?_) HSn.out (by have := HSl.out; omega)), HT.out.trans ht⟩
    have := HS.out W ((HT.out.mono HSS.out).next hW fun k hk => by
     rcases hk with hk | hk
     ·exact .inl hk
     ·exact .inr (HR.out.rng k hk).1)
    rwa [HV'.out] at this
   generalize G'.vs = old at c2
   clear HGj
   go_wp2_with fail
   go_ret
   exact ⟨_, rfl, R, _, HF.out.1, HJ.out, HF.out.2.1, HF.out.2.2⟩
end
section
open Go.RowKit
theorem okN.e3 {e : List Nd} {L : Nat} (h : okN e L) (hl : L ≤ 3000) : okN e 3000 := h.more hl
theorem one_fin {g : Nat} {a : Option Addr} {len cap q : Nat} {S : Nat → Prop} {K L : Nat} {w w2 : World} {G2 : Gn} {ve vf : Value} {e f : List Nd} (kd th el : Int) (nm : ByteArray) (h2 : GS g a len cap q S w2 G2 (K + L)) (ht : Tcs (Sq g q) w w2) (hE : ∀ W, Tcs (fun k => k < w.heap.size) w2 W → Nodes W ve e) (hF : ∀ W, Tcs (fun k => k < w.heap.size) w2 W → Nodes W vf f) (oe : okN e 3000) (of' : okN f 3000) (on : nm.size ≤ 100000) (hL : 1 ≤ L) :
  StP g a len cap q S K L 1 w (.slice (some ⟨w2.heap.size, 0, none⟩) 1 1) (w2.alloc (.cells #[.int .i64 kd, .string nm, ve, vf, .int .i64 th, .int .i64 el] 88)) :=
 ⟨_, G2, (sr_lit ht.size hE hF oe of' on).more hL, Nat.le_refl _, h2.add (h2.alloc _) ((Tcs.refl _ _).alloc _) (fun k hk => by simp [Value.ownBlock] at hk; subst hk; simp), ht.alloc _⟩
theorem GS.strs {g : Nat} {a : Option Addr} {len cap q : Nat} {S : Nat → Prop} {w : World} {G : Gn} {K : Nat} (h : GS g a len cap q S w G K) : ∃ a c, G.vs = .slice a G.ss.length c := by
 obtain ⟨a, c, e, -⟩ := h.ok.s w (Tcs.refl _ _)
 exact ⟨a, c, e⟩
set_option maxRecDepth 100000 in
set_option maxHeartbeats 8000000 in
theorem set_any (g : Nat) (a : Option Addr) (len cap q : Nat) (hl : len ≤ 1048576) (S : Nat → Prop) (G : Gn) (K L : Nat) (hL1 : 1 ≤ L) (w : World) (h : GS g a len cap q S w G K) (hK : K ≤ 50000) :
  Calls Tryz.prog 106 #[.pointer (some ⟨g, 0, none⟩), .pointer (some ⟨q, 0, none⟩)] w fun e w' => ∃ v, e = .returned v ∧ StP g a len cap q S K L 1 w v w' := by
 have HG : Hid (GS g a len cap q S w G K) := h
 obtain ⟨av, cv, hv⟩ := h.strs
 have HV : Hid (G.vs = .slice av G.ss.length cv) := hv
 obtain ⟨sl, hsl⟩ : ∃ sl, sl = G.ss.length := ⟨_, rfl⟩
 have HSl : Hid (sl = G.ss.length) := hsl
 have hsK : sl ≤ K := by rw [hsl]; exact h.ok.sl
 have hS0 : S0 g g := rfl
 clear h hv hsl
 go_enter Tryz.func106, Tryz.ntmps106
 go_wp2_with fail
 refine (pick_any g a len cap (S0 g) [⟨#[103]⟩, ⟨#[104]⟩] _ _ hl hS0 (HG.out.alloc _).cur (lit_fz _ _ 2 rfl rfl (by decide) HG.out.lo0.s) (by decide)).mono ?_
 rintro e w1 ⟨nm, hn, rfl, hd1⟩
 have HG1 : Hid (GS g a len cap q S w1 G K) := (HG.out.alloc _).dr hd1
 have HT1 : Hid (Tcs (Sq g q) w w1) := ((Tcs.refl _ _).alloc _).trans (hd1.tcs.mono s0q)
 have HNm : Hid (nm.size ≤ 100000) := by
  show _ ≤ _
  simp at hn
  rcases hn with rfl | rfl <;> decide
 have c2 : w1.cell? ⟨q, 2, none⟩ = some (.slice av sl cv) := by have := HG1.out.box.c2; rw [HV.out, ← HSl.out] at this; exact this
 clear hd1 hn
 by_cases hs : 0 < sl
 rotate_left 1
 ·have hs' : ¬ (0 : Int) < (sl : Int) := by omega
  have c3 := HG1.out.box.c3
  go_wp2_with fail
  generalize w1 = wx at *
  generalize nm = nx at *
  have HGx : Hid (GS g a len cap q S wx G K) := HG1.out
  have HTx : Hid (Tcs (Sq g q) w wx) := HT1.out
  have HNx : Hid (nx.size ≤ 100000) := HNm.out
  clear HG1 HT1 HNm c2
  all_goals (
   have hlsl : G.ls.length ≤ 10000000 := Nat.le_trans HGx.out.ok.ll (by omega)
   refine (l3in_any G.ls G.vl nx wx hlsl (HGx.out.ok.l wx (Tcs.refl _ _))).mono ?_
   rintro e w4 ⟨rfl, hb4⟩
   have HG4 : Hid (GS g a len cap q S w4 G K) := HGx.out.below hb4
   have HT4 : Hid (Tcs (Sq g q) w w4) := HTx.out.of_below hb4
   have x0 := HG4.out.box.c0
   have x1 := HG4.out.box.c1
   have x2 := HG4.out.box.c2
   have x3 := HG4.out.box.c3
   have x4 := HG4.out.box.c4
   generalize inS G.ls nx = bb
   clear hb4 c3
   cases bb
   all_goals (
    go_wp2_with fail
    refine (whole_any g a len cap (S0 g) G K w4 hl HG4.out.lo0 HG4.out.cur HG4.out.ok0 hK).mono ?_
    rintro e w5 ⟨u5, e5, rfl, hr5, hn5, hd5⟩
    obtain ⟨a5, c5, rfl, -⟩ := own_shape hr5
    have HF := fun (nm : ByteArray) (on : nm.size ≤ 100000) => one_fin (L := L) 2 0 0 nm ((HG4.out.dr hd5).more (Nat.le_add_right _ _)) (HT4.out.trans (hd5.tcs.mono s0q)) (nrow_st hr5 HT4.out.size) (fun W _ => nodes_none W) (hn5.e3 (by omega)) (okN.nil.more (Nat.zero_le _)) on hL1
    have HF' : Hid (∀ (nm : ByteArray), nm.size ≤ 100000 → StP g a len cap q S K L 1 w (.slice (some ⟨w5.heap.size, 0, none⟩) 1 1) (w5.alloc (.cells #[.int .i64 2, .string nm, .slice a5 e5.length c5, .slice none 0 0, .int .i64 0, .int .i64 0] 88))) := HF
    clear HF hr5 hn5 hd5 x0 x1 x2 x3 x4
    generalize e5.length = l5 at HF' ⊢
    go_wp2_with fail
    go_ret
    first
    | exact ⟨_, rfl, HF'.out _ HNx.out⟩
    | exact ⟨_, rfl, HF'.out _ (by decide)⟩))
 ·have hs' : (0 : Int) < (sl : Int) := by omega
  go_wp2_with fail
  refine (below_any g a len cap (S0 g) _ _ hl hS0 HG1.out.cur (by omega)).mono ?_
  rintro e w2 ⟨y, rfl, hy, hd2⟩
  have HG2 : Hid (GS g a len cap q S w2 G K) := HG1.out.dr hd2
  have HT2 : Hid (Tcs (Sq g q) w w2) := HT1.out.trans (hd2.tcs.mono s0q)
  have c2' : w2.cell? ⟨q, 2, none⟩ = some (.slice av sl cv) := by have := HG2.out.box.c2; rw [HV.out, ← HSl.out] at this; exact this
  clear hd2 c2
  by_cases hy0 : 0 < y
  ·go_wp2_with fail
   have HP : Hid (∀ W, Tcs (S0 g) w2 W → Strs W (.slice av sl cv) G.ss) := fun W hW => by have := HG2.out.ok0.s W hW; rw [HV.out, ← HSl.out] at this; exact this
   refine (pick_any g a len cap (S0 g) G.ss _ w2 hl hS0 HG2.out.cur HP.out ⟨by rw [← HSl.out]; omega, by rw [← HSl.out]; omega⟩).mono ?_
   rintro e wx ⟨nx, hn, rfl, hd3⟩
   have HGx : Hid (GS g a len cap q S wx G K) := HG2.out.dr hd3
   have HTx : Hid (Tcs (Sq g q) w wx) := HT2.out.trans (hd3.tcs.mono s0q)
   have HNx : Hid (nx.size ≤ 100000) := HG2.out.ok.ns.2.1 nx hn
   have c3 := HGx.out.box.c3
   clear hd3 hn c2' HP HG2 HT2 HG1 HT1
   go_wp2_with fail
   all_goals (
    have hlsl : G.ls.length ≤ 10000000 := Nat.le_trans HGx.out.ok.ll (by omega)
    refine (l3in_any G.ls G.vl nx wx hlsl (HGx.out.ok.l wx (Tcs.refl _ _))).mono ?_
    rintro e w4 ⟨rfl, hb4⟩
    have HG4 : Hid (GS g a len cap q S w4 G K) := HGx.out.below hb4
    have HT4 : Hid (Tcs (Sq g q) w w4) := HTx.out.of_below hb4
    have x0 := HG4.out.box.c0
    have x1 := HG4.out.box.c1
    have x2 := HG4.out.box.c2
    have x3 := HG4.out.box.c3
    have x4 := HG4.out.box.c4
    generalize inS G.ls nx = bb
    clear hb4 c3
    cases bb
    all_goals (
     go_wp2_with fail
     refine (whole_any g a len cap (S0 g) G K w4 hl HG4.out.lo0 HG4.out.cur HG4.out.ok0 hK).mono ?_
     rintro e w5 ⟨u5, e5, rfl, hr5, hn5, hd5⟩
     obtain ⟨a5, c5, rfl, -⟩ := own_shape hr5
     have HF := fun (nm : ByteArray) (on : nm.size ≤ 100000) => one_fin (L := L) 2 0 0 nm ((HG4.out.dr hd5).more (Nat.le_add_right _ _)) (HT4.out.trans (hd5.tcs.mono s0q)) (nrow_st hr5 HT4.out.size) (fun W _ => nodes_none W) (hn5.e3 (by omega)) (okN.nil.more (Nat.zero_le _)) on hL1
     have HF' : Hid (∀ (nm : ByteArray), nm.size ≤ 100000 → StP g a len cap q S K L 1 w (.slice (some ⟨w5.heap.size, 0, none⟩) 1 1) (w5.alloc (.cells #[.int .i64 2, .string nm, .slice a5 e5.length c5, .slice none 0 0, .int .i64 0, .int .i64 0] 88))) := HF
     clear HF hr5 hn5 hd5 x0 x1 x2 x3 x4
     generalize e5.length = l5 at HF' ⊢
     go_wp2_with fail
     go_ret
     first
     | exact ⟨_, rfl, HF'.out _ HNx.out⟩
     | exact ⟨_, rfl, HF'.out _ (by decide)⟩))
  ·have c3 := HG2.out.box.c3
   go_wp2_with fail
   generalize w2 = wx at *
   generalize nm = nx at *
   have HGx : Hid (GS g a len cap q S wx G K) := HG2.out
   have HTx : Hid (Tcs (Sq g q) w wx) := HT2.out
   have HNx : Hid (nx.size ≤ 100000) := HNm.out
   clear HG1 HT1 HNm c2' HG2 HT2
   all_goals (
    have hlsl : G.ls.length ≤ 10000000 := Nat.le_trans HGx.out.ok.ll (by omega)
    refine (l3in_any G.ls G.vl nx wx hlsl (HGx.out.ok.l wx (Tcs.refl _ _))).mono ?_
    rintro e w4 ⟨rfl, hb4⟩
    have HG4 : Hid (GS g a len cap q S w4 G K) := HGx.out.below hb4
    have HT4 : Hid (Tcs (Sq g q) w w4) := HTx.out.of_below hb4
    have x0 := HG4.out.box.c0
    have x1 := HG4.out.box.c1
    have x2 := HG4.out.box.c2
    have x3 := HG4.out.box.c3
    have x4 := HG4.out.box.c4
    generalize inS G.ls nx = bb
    clear hb4 c3
    cases bb
    all_goals (
     go_wp2_with fail
     refine (whole_any g a len cap (S0 g) G K w4 hl HG4.out.lo0 HG4.out.cur HG4.out.ok0 hK).mono ?_
     rintro e w5 ⟨u5, e5, rfl, hr5, hn5, hd5⟩
     obtain ⟨a5, c5, rfl, -⟩ := own_shape hr5
     have HF := fun (nm : ByteArray) (on : nm.size ≤ 100000) => one_fin (L := L) 2 0 0 nm ((HG4.out.dr hd5).more (Nat.le_add_right _ _)) (HT4.out.trans (hd5.tcs.mono s0q)) (nrow_st hr5 HT4.out.size) (fun W _ => nodes_none W) (hn5.e3 (by omega)) (okN.nil.more (Nat.zero_le _)) on hL1
     have HF' : Hid (∀ (nm : ByteArray), nm.size ≤ 100000 → StP g a len cap q S K L 1 w (.slice (some ⟨w5.heap.size, 0, none⟩) 1 1) (w5.alloc (.cells #[.int .i64 2, .string nm, .slice a5 e5.length c5, .slice none 0 0, .int .i64 0, .int .i64 0] 88))) := HF
     clear HF hr5 hn5 hd5 x0 x1 x2 x3 x4
     generalize e5.length = l5 at HF' ⊢
     go_wp2_with fail
     go_ret
     first
     | exact ⟨_, rfl, HF'.out _ HNx.out⟩
     | exact ⟨_, rfl, HF'.out _ (by decide)⟩))
end
section
open Go.RowKit
theorem sc_app (w : World) (v : Value) (ss : List ByteArray) (nm : ByteArray) (h : Strs w v ss) (hl : ss.length ≤ 100000) (ty : TypeId) :
  ∃ v1 w1 a2 n2 c2 w2, (Builtin.append_ #[58, 58] ty #[.slice (some ⟨w.heap.size, 0, none⟩) 0 0, v]).run Tryz.prog (w.alloc (.cells #[] 9)) = .ok v1 w1 ∧ (Builtin.append_ #[58, 58] ty #[v1, .slice (some ⟨w1.heap.size, 0, none⟩) 1 1]).run Tryz.prog (w1.alloc (.cells #[.string nm] 9)) = .ok (.slice a2 n2 c2) w2 ∧ w2.ownsRow w.heap.size 9 1 (.slice a2 n2 c2) (ss ++ [nm]).length ((ss ++ [nm]).map Value.string) ∧ Below w.heap.size w w2 := by
 obtain ⟨i0, hi, hz0, hz1, hz2⟩ := info_parts info_str
 have hb0 : Below w.heap.size w (w.alloc (.cells #[] 9)) := (Below.refl _ _).alloc (Nat.le_refl _) _
 have h0 : (w.alloc (.cells #[] 9)).ownsRow w.heap.size 9 1 (.slice (some ⟨w.heap.size, 0, none⟩) 0 0) 0 [] := World.ownsRow_lit w #[] 0 (Nat.le_refl _) (by decide) rfl
 obtain ⟨a, c, rfl, hn, hc⟩ := (h.below hb0).src
 obtain ⟨v1, w1, r1, o1, g1, -⟩ := run_appG (P := Tryz.prog) (w := w.alloc (.cells #[] 9)) w.heap.size 58 ty 9 i0 _ 1 16 Tryz.underlying58 hi hz0 hz1 hz2 rfl (by decide) _ 0 [] h0 a ss.length c (ss.map Value.string) (fun e => by rw [hn e]; rfl) (by simp) hc (fun u hu => by obtain ⟨x, -, rfl⟩ := List.mem_map.1 hu; rfl) (by omega) (by decide) hb0.size
 have hb1 : Below w.heap.size w w1 := hb0.grown g1 hb0.size (fun j hj => (World.ownsRow.lt h0 j hj).1)
 have hb2 : Below w.heap.size w (w1.alloc (.cells #[.string nm] 9)) := hb1.alloc hb1.size _
 have o1' := ownB o1 ((Below.refl w1.heap.size w1).alloc (Nat.le_refl _) (.cells #[.string nm] 9))
 have hlit : (w1.alloc (.cells #[.string nm] 9)).ownsRow w1.heap.size 9 1 (.slice (some ⟨w1.heap.size, 0, none⟩) 1 1) 1 [.string nm] := World.ownsRow_lit w1 #[.string nm] 1 (Nat.le_refl _) (by decide) rfl
 obtain ⟨v2, w2, r2, o2, g2, -⟩ := run_appG (P := Tryz.prog) (w := w1.alloc (.cells #[.string nm] 9)) w.heap.size 58 ty 9 i0 _ 1 16 Tryz.underlying58 hi hz0 hz1 hz2 rfl (by decide) v1 _ _ o1' (some ⟨w1.heap.size, 0, none⟩) 1 1 [.string nm] (fun e => by cases e) rfl (fun ad had j u hu => by cases had; exact World.ownsRow.cells hlit (g := w1.heap.size) rfl j u hu) (fun u hu => by simp at hu; subst hu; rfl) (by omega) (by decide) hb2.size
 obtain ⟨a2, c2, rfl, -⟩ := own_shape o2
 refine ⟨v1, w1, a2, _, c2, w2, r1, r2, ?_, hb2.grown g2 hb2.size (fun j hj => (World.ownsRow.lt o1' j hj).1)⟩
 have e1 : (ss ++ [nm]).length = 0 + ss.length + 1 := by simp
 have e2 : (ss ++ [nm]).map Value.string = [] ++ ss.map Value.string ++ [.string nm] := by simp
 rw [e1, e2]
 exact o2
theorem nrow_lit3 (w : World) (B : Nat) (hB : B ≤ w.heap.size) (k1 v1 k2 v2 k3 v3 : Int) (s1 s2 s3 : ByteArray) : NRow B (w.alloc (.cells #[.int .i64 k1, .int .i64 v1, .string s1, .int .i64 k2, .int .i64 v2, .string s2, .int .i64 k3, .int .i64 v3, .string s3] 91)) (.slice (some ⟨w.heap.size, 0, none⟩) 3 3) [⟨k1, v1, s1⟩, ⟨k2, v2, s2⟩, ⟨k3, v3, s3⟩] :=
 World.ownsRow_lit w #[.int .i64 k1, .int .i64 v1, .string s1, .int .i64 k2, .int .i64 v2, .string s2, .int .i64 k3, .int .i64 v3, .string s3] 3 hB (by decide) rfl
theorem okN.three {k1 v1 k2 v2 k3 v3 : Int} {s1 s2 s3 : ByteArray} (h1 : s1.size ≤ 100000) (h2 : s2.size ≤ 100000) (h3 : s3.size ≤ 100000) : okN [⟨k1, v1, s1⟩, ⟨k2, v2, s2⟩, ⟨k3, v3, s3⟩] 3 :=
 (okN.one h1).app ((okN.one h2).app (okN.one h3))
theorem scope_set {g : Nat} {a : Option Addr} {len cap q : Nat} {S : Nat → Prop} {w0 w2 : World} {G : Gn} {K : Nat} {v : Value} {ss : List ByteArray} {nm : ByteArray} (h : GS g a len cap q S w0 G K) (hb : Below w0.heap.size w0 w2) (ho : w2.ownsRow w0.heap.size 9 1 v (ss ++ [nm]).length ((ss ++ [nm]).map Value.string)) (hs : ∀ x ∈ ss, x.size ≤ 100000) (hn : nm.size ≤ 100000) (hl : ss.length + 1 ≤ K) : GS g a len cap q S (w2.setCell ⟨q, 2, none⟩ v) { G with vs := v, ss := ss ++ [nm] } K := by
 have h2 := h.below hb
 refine h2.set (h2.box.set2 _ _) (h2.ok.setS (fun W hW => own_strs (own_tcs ho hW h.lo.s)) (fun x hx => ?_) (by simpa using hl))
 rcases List.mem_append.1 hx with hx | hx
 ·exact hs x hx
 ·simp only [List.mem_singleton] at hx
  subst hx
  exact hn
theorem lock_set {g : Nat} {a : Option Addr} {len cap q : Nat} {S : Nat → Prop} {w0 w2 : World} {G : Gn} {K : Nat} {v : Value} {ss : List ByteArray} {nm : ByteArray} (h : GS g a len cap q S w0 G K) (hb : Below w0.heap.size w0 w2) (ho : w2.ownsRow w0.heap.size 9 1 v (ss ++ [nm]).length ((ss ++ [nm]).map Value.string)) (hs : ∀ x ∈ ss, x.size ≤ 100000) (hn : nm.size ≤ 100000) (hl : ss.length + 1 ≤ K) : GS g a len cap q S (w2.setCell ⟨q, 3, none⟩ v) { G with vl := v, ls := ss ++ [nm] } K := by
 have h2 := h.below hb
 refine h2.set (h2.box.set3 _ _) (h2.ok.setL (fun W hW => own_strs (own_tcs ho hW h.lo.s)) (fun x hx => ?_) (by simpa using hl))
 rcases List.mem_append.1 hx with hx | hx
 ·exact hs x hx
 ·simp only [List.mem_singleton] at hx
  subst hx
  exact hn
end
section
open Go.RowKit
set_option maxRecDepth 100000 in
set_option maxHeartbeats 8000000 in
theorem loop_any (g : Nat) (a : Option Addr) (len cap q d : Nat) (hl : len ≤ 1048576) (hd : d ≤ 3) (hX : StC g a len cap q d) (z : Int) (hz : z = ((d + 1 : Nat) : Int)) (S : Nat → Prop) (G : Gn) (K : Nat) (w : World) (h : GS g a len cap q S w G K) (hK : K + dpt (d + 1) ≤ 50000) :
  Calls Tryz.prog 107 #[.pointer (some ⟨g, 0, none⟩), .pointer (some ⟨q, 0, none⟩), .int .i64 z] w fun e w' => ∃ v, e = .returned v ∧ StP g a len cap q S K (dpt (d + 1)) 1 w v w' := by
 have hdb := dpt_le (d := d) (by omega)
 obtain ⟨D, hD⟩ : ∃ D, D = dpt d := ⟨_, rfl⟩
 have hDD : dpt (d + 1) = 4 * D + 3 := by rw [hD]; rfl
 rw [hDD] at hK ⊢
 have HX : Hid (StC g a len cap q d) := hX
 have HD : Hid (D = dpt d) := hD
 have hz1 : 1 ≤ z ∧ z ≤ 4 := by omega
 have HZ : Hid (z - 1 = d) := by show _ = _; omega
 rw [← hD] at hdb
 clear hX hD hDD hz
 have HG : Hid (GS g a len cap q S w G K) := h
 have hS0 : S0 g g := rfl
 have HS : Hid (∀ W, Tcs S w W → Strs W G.vs G.ss) := h.ok.s
 have HSn : Hid (∀ x ∈ G.ss, x.size ≤ 100000) := h.ok.ns.2.1
 have HLn : Hid (∀ x ∈ G.ls, x.size ≤ 100000) := h.ok.ns.2.2
 have HSS : Hid (∀ k, Sq g q k → S k) := h.sqs
 have hsl := h.ok.sl
 have hll := h.ok.ll
 have HL : Hid (Lo g a len S w.heap.size) := h.lo
 have HSq : Hid (S q) := h.sq
 clear h
 go_enter Tryz.func107, Tryz.ntmps107
 go_wp2_with fail
 refine (newName_any g a len cap q S G K w HG.out (by omega)).mono ?_
 rintro e w1 ⟨nm, rfl, hn1, hg1, ht1⟩
 have HNm : Hid (nm.size ≤ 100000) := hn1
 have HG1 : Hid (GS g a len cap q S w1 { G with m := G.m + 1 } (K + 1)) := hg1
 have HT1 : Hid (Tcs (Sq g q) w w1) := ht1
 obtain ⟨va1, wa1, xa, xn, xc, wa2, ra1, ra2, oa, ba⟩ := sc_app w1 G.vs G.ss nm (hg1.ok.s w1 (Tcs.refl _ _)) (by omega) 58
 have hg3 := scope_set hg1 ba oa HSn.out hn1 (by omega)
 have ht3 : Tcs (Sq g q) w (wa2.setCell ⟨q, 2, none⟩ (.slice xa xn xc)) := (ht1.of_below ba).trans (set_sq wa2 (.slice xa xn xc))
 have c2 : w1.cell? ⟨q, 2, none⟩ = some G.vs := hg1.box.c2
 have c2a : (w1.alloc (.cells #[] 9)).cell? ⟨q, 2, none⟩ = some G.vs := (hg1.alloc _).box.c2
 have ha2 := (hg1.below ba).box
 have d2 : wa2.cell? ⟨q, 2, none⟩ = some G.vs := ha2.c2
 have f2 : wa2.frozen? ⟨q, 2, none⟩ = false := ha2.fz 2
 obtain ⟨W3, hW3⟩ : ∃ W3, W3 = wa2.setCell ⟨q, 2, none⟩ (.slice xa xn xc) := ⟨_, rfl⟩
 have HW3 : Hid (W3 = wa2.setCell ⟨q, 2, none⟩ (.slice xa xn xc)) := hW3
 rw [← hW3] at hg3 ht3
 have Hra1 : Hid _ := ra1
 have Hra2 : Hid _ := ra2
 have HG3 : Hid (GS g a len cap q S W3 { G with m := G.m + 1, vs := (.slice xa xn xc), ss := G.ss ++ [nm] } (K + 1)) := hg3
 have HT3 : Hid (Tcs (Sq g q) w W3) := ht3
 clear hn1 hg1 ht1 oa hg3 ha2 ra1 ra2 ba ht3 hW3
 generalize hgv : G.vs = gvs at c2 c2a d2 Hra1
 have HGv : Hid (G.vs = gvs) := hgv
 clear hgv
 go_upto_region 4 with (at_builtin; first
  | refine wpList_appG rfl (.tmp 19) (.tmp 23) _ rfl _ _ _ _ rfl rfl Hra1.out ?_
  | refine wpList_appG rfl (.tmp 24) (.tmp 26) _ rfl _ _ _ _ rfl rfl Hra2.out ?_)
 rw [← HW3.out]
 clear c2 c2a d2 f2 HW3 Hra1 Hra2
 obtain ⟨vb1, wb1, ya, yn, yc, wb2, rb1, rb2, ob, bb⟩ := sc_app W3 G.vl G.ls nm (HG3.out.ok.l _ (Tcs.refl _ _)) (by omega) 58
 have hg5 := lock_set HG3.out bb ob HLn.out HNm.out (by omega)
 have ht5 : Tcs (Sq g q) w (wb2.setCell ⟨q, 3, none⟩ (.slice ya yn yc)) := (HT3.out.of_below bb).trans (set_sq wb2 (.slice ya yn yc))
 have d3 : W3.cell? ⟨q, 3, none⟩ = some G.vl := HG3.out.box.c3
 have d3a : (W3.alloc (.cells #[] 9)).cell? ⟨q, 3, none⟩ = some G.vl := (HG3.out.alloc _).box.c3
 have hb2 := (HG3.out.below bb).box
 have e3 : wb2.cell? ⟨q, 3, none⟩ = some G.vl := hb2.c3
 have k3 : wb2.frozen? ⟨q, 3, none⟩ = false := hb2.fz 3
 obtain ⟨W5, hW5⟩ : ∃ W5, W5 = wb2.setCell ⟨q, 3, none⟩ (.slice ya yn yc) := ⟨_, rfl⟩
 have HW5 : Hid (W5 = wb2.setCell ⟨q, 3, none⟩ (.slice ya yn yc)) := hW5
 rw [← hW5] at hg5 ht5
 obtain ⟨G5, hG5⟩ : ∃ G5 : Gn, G5 = { G with m := G.m + 1, vs := (.slice xa xn xc), ss := G.ss ++ [nm], vl := (.slice ya yn yc), ls := G.ls ++ [nm] } := ⟨_, rfl⟩
 have HG5 : Hid (GS g a len cap q S W5 G5 (K + 1)) := by rw [hG5]; exact hg5
 have HT5 : Hid (Tcs (Sq g q) w W5) := ht5
 have Hrb1 : Hid _ := rb1
 have Hrb2 : Hid _ := rb2
 clear rb1 rb2 ob bb hg5 ht5 hb2 hW5 hG5
 generalize G.vl = gvl at d3 d3a e3 Hrb1
 go_upto_region 5 with (at_builtin; first
  | refine wpList_appG rfl (.tmp 31) (.tmp 35) _ rfl _ _ _ _ rfl rfl Hrb1.out ?_
  | refine wpList_appG rfl (.tmp 36) (.tmp 38) _ rfl _ _ _ _ rfl rfl Hrb2.out ?_)
 rw [← HW5.out]
 clear d3 d3a e3 k3 HW5 Hrb1 Hrb2
 obtain ⟨W6, hW6⟩ : ∃ W6, W6 = W5.alloc (.cells #[.int .i64 2, .int .i64 0, .string nm] 91) := ⟨_, rfl⟩
 have HW6 : Hid (W6 = W5.alloc (.cells #[.int .i64 2, .int .i64 0, .string nm] 91)) := hW6
 have HG6 : Hid (GS g a len cap q S W6 G5 (K + 1)) := by rw [hW6]; exact HG5.out.alloc _
 have HT6 : Hid (Tcs (Sq g q) w W6) := by rw [hW6]; exact HT5.out.alloc _
 obtain ⟨P, hP⟩ : ∃ P, P = W5.heap.size := ⟨_, rfl⟩
 have HP : Hid (P = W5.heap.size) := hP
 have hPw : w.heap.size ≤ P := by rw [hP]; exact HT5.out.size
 have HPc : Hid (∀ W, Tcs (Sq g q) W6 W → W.cell? ⟨P, 0, none⟩ = some (.int .i64 2) ∧ W.cell? ⟨P, 1, none⟩ = some (.int .i64 0) ∧ W.cell? ⟨P, 2, none⟩ = some (.string nm)) := fun W hW => by
  have hlt : P < W6.heap.size := by rw [hW6, hP]; simp
  have e : ∀ o, W.cell? ⟨P, o, none⟩ = W6.cell? ⟨P, o, none⟩ := fun o => World.cell?_of_block (a := ⟨P, o, none⟩) (hW.block P hlt (fun s => by have := HG.out.lo.s P (HSS.out P s); omega))
  rw [e, e, e, hW6, hP]
  exact ⟨by simp, by simp, by simp⟩
 clear hW6 hP
 go_upto_region 6 with fail
 rw [← HW6.out, ← HP.out]
 clear HW6 HP
 go_wp2_with fail
 refine (below_any g a len cap (S0 g) _ _ hl hS0 HG6.out.cur (by omega)).mono ?_
 rintro e w7 ⟨x, rfl, hx, hd7⟩
 have HG7 : Hid (GS g a len cap q S w7 G5 (K + 1)) := HG6.out.dr hd7
 have HT7 : Hid (Tcs (Sq g q) w w7) := HT6.out.trans (hd7.tcs.mono s0q)
 have HT67 : Hid (Tcs (Sq g q) W6 w7) := hd7.tcs.mono s0q
 obtain ⟨n, hnn⟩ : ∃ n, n = (1 + x).toNat := ⟨_, rfl⟩
 have hn3 : n ≤ 3 ∧ 1 ≤ n := by omega
 have HNx : Hid (1 + x = (n : Int)) := by show _ = _; omega
 obtain ⟨nD, hnD⟩ : ∃ nD, nD = n * dpt d := ⟨_, rfl⟩
 have HnD : Hid (nD = n * dpt d) := hnD
 have hnDb : nD ≤ 3 * D := by rw [hnD, ← HD.out]; exact Nat.mul_le_mul_right _ hn3.1
 clear hd7 hnn hnD
 go_wp2_with fail
 refine (block_any g a len cap q d (by omega) HX.out n (by omega) _ _ HNx.out HZ.out S G5 (K + 1) w7 HG7.out (by rw [← HnD.out]; omega)).mono ?_
 rintro e w8 ⟨vb, rfl, Rb, G8, hr8, hl8, hg8, ht8⟩
 rw [← HnD.out] at hr8 hg8
 obtain ⟨ba, bn, bc, rfl⟩ : ∃ ba bn bc, vb = .slice ba bn bc := by obtain ⟨x, y, e⟩ := hr8.shape; exact ⟨x, _, y, e⟩
 obtain ⟨p0, p1, p2⟩ := HPc.out w8 (HT67.out.trans ht8)
 have h8s : w7.heap.size ≤ w8.heap.size := ht8.size
 have h7s : w.heap.size ≤ w7.heap.size := HT7.out.size
 have hPl : P < w8.heap.size := World.block_lt_of_cell? _ _ p0
 have hlit := sr_lit (w := w8.alloc (.cells #[.int .i64 2, .int .i64 0, .string nm, .int .i64 1, .int .i64 1, .string ⟨#[]⟩, .int .i64 7, .int .i64 4, .string ⟨#[]⟩] 91)) (B := w8.heap.size) (kd := 2) (th := 0) (el := 0) (nm := nm) (vf := .slice none 0 0) (f := []) (by simp) (nrow_st (nrow_lit3 w8 w8.heap.size (Nat.le_refl _) 2 0 1 1 7 4 nm ⟨#[]⟩ ⟨#[]⟩) (Nat.le_refl _)) (fun W _ => nodes_none W) ((okN.three HNm.out (by decide) (by decide)).e3 (by omega)) (okN.nil.more (Nat.zero_le _)) HNm.out
 have hr8' := (hr8.below ((Below.refl w8.heap.size w8).alloc (Nat.le_refl _) (.cells #[.int .i64 2, .int .i64 0, .string nm, .int .i64 1, .int .i64 1, .string ⟨#[]⟩, .int .i64 7, .int .i64 4, .string ⟨#[]⟩] 91))).below ((Below.refl _ _).alloc (Nat.le_refl _) (.cells #[.int .i64 2, .string nm, .slice (some ⟨w8.heap.size, 0, none⟩) 3 3, .slice none 0 0, .int .i64 0, .int .i64 0] 88))
 have hg8' := (hg8.alloc (.cells #[.int .i64 2, .int .i64 0, .string nm, .int .i64 1, .int .i64 1, .string ⟨#[]⟩, .int .i64 7, .int .i64 4, .string ⟨#[]⟩] 91)).alloc (.cells #[.int .i64 2, .string nm, .slice (some ⟨w8.heap.size, 0, none⟩) 3 3, .slice none 0 0, .int .i64 0, .int .i64 0] 88)
 have ht8' := (((HT7.out.trans ht8).alloc (.cells #[.int .i64 2, .int .i64 0, .string nm, .int .i64 1, .int .i64 1, .string ⟨#[]⟩, .int .i64 7, .int .i64 4, .string ⟨#[]⟩] 91)).alloc (.cells #[.int .i64 2, .string nm, .slice (some ⟨w8.heap.size, 0, none⟩) 3 3, .slice none 0 0, .int .i64 0, .int .i64 0] 88))
 obtain ⟨v11, w11, r11, h11, t11, f11⟩ := sr_app 59 hr8' hlit (by simp; omega) (by omega) (sr_behind hlit h8s (fun k hk => (hr8.rng k hk).2))
 obtain ⟨ca, cn, cc, rfl⟩ : ∃ ca cn cc, v11 = .slice ca cn cc := by obtain ⟨x, y, e⟩ := h11.shape; exact ⟨x, _, y, e⟩
 simp only [World.size_alloc] at r11
 have Hr11 : Hid _ := r11
 have H11 : Hid (SR w7.heap.size w11 (.slice ca cn cc) _ (nD + 1)) := h11
 have HG11 : Hid (GS g a len cap q (Sv S (.slice ca cn cc)) w11 G8 (K + 1 + nD)) := hg8'.app HG7.out.lo HSq.out (fun k hk => (hr8.rng k hk).1) t11 f11 (fun k hk => (h11.rng k hk).2)
 have HT11 : Hid (Tcs (Sq g q) w w11) := ht8'.next t11 (fun k hk => .inr (Nat.le_trans h7s (hr8.rng k hk).1))
 have HP11 : Hid (Tcs (Sq g q) W6 w11) := (((HT67.out.trans ht8).alloc _).alloc _).next t11 (fun k hk => .inr (Nat.le_trans HT67.out.size (hr8.rng k hk).1))
 have h711 : w7.heap.size ≤ w11.heap.size := by have := t11.size; simp at this; omega
 clear hr8 hl8 hg8 ht8 hlit hr8' hg8' ht8' r11 h11 t11 f11
 go_upto_region 8 with (at_builtin; refine wpList_appG rfl _ _ _ rfl _ _ _ _ rfl rfl Hr11.out ?_)
 clear p0 p1 p2 Hr11 hPl
 go_wp2_with fail
 refine (below_any g a len cap (S0 g) _ _ hl hS0 HG11.out.cur (by omega)).mono ?_
 rintro e w12 ⟨y, rfl, hy, hd12⟩
 have hg12 := HG11.out.dr hd12
 have HT12 : Hid (Tcs (Sq g q) w w12) := HT11.out.trans (hd12.tcs.mono s0q)
 have HP12 : Hid (Tcs (Sq g q) W6 w12) := HP11.out.trans (hd12.tcs.mono s0q)
 have H1112 : Hid (Tcs (Sq g q) w11 w12) := hd12.tcs.mono s0q
 obtain ⟨W14, hW14⟩ : ∃ W14, W14 = (w12.alloc (.cells #[.int .i64 1, .int .i64 y, .string ⟨#[]⟩] 91)).alloc (.cells #[.int .i64 1, .string nm, .slice (some ⟨w12.heap.size, 0, none⟩) 1 1, .slice none 0 0, .int .i64 0, .int .i64 0] 88) := ⟨_, rfl⟩
 have HW14 : Hid (W14 = (w12.alloc (.cells #[.int .i64 1, .int .i64 y, .string ⟨#[]⟩] 91)).alloc (.cells #[.int .i64 1, .string nm, .slice (some ⟨w12.heap.size, 0, none⟩) 1 1, .slice none 0 0, .int .i64 0, .int .i64 0] 88)) := hW14
 obtain ⟨O, hO⟩ : ∃ O, O = w12.heap.size + 1 := ⟨_, rfl⟩
 have HO : Hid (O = w12.heap.size + 1) := hO
 have hso := sr_lit (w := w12.alloc (.cells #[.int .i64 1, .int .i64 y, .string ⟨#[]⟩] 91)) (B := w12.heap.size) (kd := 1) (th := 0) (el := 0) (nm := nm) (vf := .slice none 0 0) (f := []) (by simp) (nrow_st (nrow_lit w12 w12.heap.size (Nat.le_refl _) 1 y ⟨#[]⟩) (Nat.le_refl _)) (fun W _ => nodes_none W) ((okN.one (by decide)).e3 (by omega)) (okN.nil.more (Nat.zero_le _)) HNm.out
 have hg14 := GS.add (v := .slice (some ⟨w12.heap.size + 1, 0, none⟩) 1 1) hg12 ((hg12.alloc (.cells #[.int .i64 1, .int .i64 y, .string ⟨#[]⟩] 91)).alloc (.cells #[.int .i64 1, .string nm, .slice (some ⟨w12.heap.size, 0, none⟩) 1 1, .slice none 0 0, .int .i64 0, .int .i64 0] 88)) (((Tcs.refl _ _).alloc _).alloc _) (fun k hk => by simp [Value.ownBlock] at hk; subst hk; simp)
 simp only [World.size_alloc] at hso
 rw [← hW14] at hg14
 rw [← hW14, ← hO] at hso
 rw [← hO] at hg14
 have HSo : Hid (SR w12.heap.size W14 (.slice (some ⟨O, 0, none⟩) 1 1) _ 1) := hso
 have HG14 : Hid (GS g a len cap q (Sv (Sv S (.slice ca cn cc)) (.slice (some ⟨O, 0, none⟩) 1 1)) W14 G8 (K + 1 + nD)) := hg14
 have HL12 : Hid (Lo g a len (Sv S (.slice ca cn cc)) w12.heap.size) := hg12.lo
 have HT14 : Hid (Tcs (Sq g q) w W14) := by rw [hW14]; exact (HT12.out.alloc _).alloc _
 have HP14 : Hid (Tcs (Sq g q) W6 W14) := by rw [hW14]; exact (HP12.out.alloc _).alloc _
 have H1114 : Hid (Tcs (Sq g q) w11 W14) := by rw [hW14]; exact (H1112.out.alloc _).alloc _
 have h12s : w.heap.size ≤ w12.heap.size := HT12.out.size
 have h1214 : w12.heap.size ≤ W14.heap.size := by rw [hW14]; simp; omega
 have h1112 : w11.heap.size ≤ w12.heap.size := H1112.out.size
 clear hd12 hg12 hso hg14 hW14 hO
 go_upto_region 9 with fail
 rw [← HW14.out, ← HO.out]
 clear HW14 HO
 obtain ⟨p0, p1, p2⟩ := HPc.out W14 HP14.out
 have hPl : P < W14.heap.size := World.block_lt_of_cell? _ _ p0
 have hlit := sr_lit (w := W14.alloc (.cells #[.int .i64 2, .int .i64 0, .string nm, .int .i64 1, .int .i64 0, .string ⟨#[]⟩, .int .i64 7, .int .i64 9, .string ⟨#[]⟩] 91)) (B := W14.heap.size) (kd := 5) (th := cn) (el := 0) (nm := ⟨#[]⟩) (vf := .slice none 0 0) (f := []) (by simp) (nrow_st (nrow_lit3 W14 W14.heap.size (Nat.le_refl _) 2 0 1 0 7 9 nm ⟨#[]⟩ ⟨#[]⟩) (Nat.le_refl _)) (fun W _ => nodes_none W) ((okN.three HNm.out (by decide) (by decide)).e3 (by omega)) (okN.nil.more (Nat.zero_le _)) (by decide)
 have hr14 := (HSo.out.below ((Below.refl W14.heap.size W14).alloc (Nat.le_refl _) (.cells #[.int .i64 2, .int .i64 0, .string nm, .int .i64 1, .int .i64 0, .string ⟨#[]⟩, .int .i64 7, .int .i64 9, .string ⟨#[]⟩] 91))).below ((Below.refl _ _).alloc (Nat.le_refl _) (.cells #[.int .i64 5, .string ⟨#[]⟩, .slice (some ⟨W14.heap.size, 0, none⟩) 3 3, .slice none 0 0, .int .i64 cn, .int .i64 0] 88))
 have hg16 := (HG14.out.alloc (.cells #[.int .i64 2, .int .i64 0, .string nm, .int .i64 1, .int .i64 0, .string ⟨#[]⟩, .int .i64 7, .int .i64 9, .string ⟨#[]⟩] 91)).alloc (.cells #[.int .i64 5, .string ⟨#[]⟩, .slice (some ⟨W14.heap.size, 0, none⟩) 3 3, .slice none 0 0, .int .i64 cn, .int .i64 0] 88)
 obtain ⟨v17, w17, r17, h17, t17, f17⟩ := sr_app 59 hr14 hlit (by simp; omega) (by omega) (sr_behind hlit h1214 (fun k hk => (HSo.out.rng k hk).2))
 obtain ⟨da, dn, dc, rfl⟩ : ∃ da dn dc, v17 = .slice da dn dc := by obtain ⟨x, y, e⟩ := h17.shape; exact ⟨x, _, y, e⟩
 simp only [World.size_alloc] at r17
 have Hr17 : Hid _ := r17
 have H17 : Hid (SR w12.heap.size w17 (.slice da dn dc) _ (1 + 1)) := h17
 have HG17 : Hid (GS g a len cap q (Sv (Sv S (.slice ca cn cc)) (.slice da dn dc)) w17 G8 (K + 1 + nD)) := hg16.app HL12.out (.inl HSq.out) (fun k hk => (HSo.out.rng k hk).1) t17 f17 (fun k hk => (h17.rng k hk).2)
 have HT17 : Hid (Tcs (Sq g q) w w17) := ((HT14.out.alloc _).alloc _).next t17 (fun k hk => .inr (Nat.le_trans h12s (HSo.out.rng k hk).1))
 have H1117 : Hid (Tcs (Sq g q) w11 w17) := ((H1114.out.alloc _).alloc _).next t17 (fun k hk => .inr (Nat.le_trans h1112 (HSo.out.rng k hk).1))
 clear hlit hr14 hg16 r17 h17 t17 f17
 go_upto_region 10 with (at_builtin; refine wpList_appG rfl _ _ _ rfl _ _ _ _ rfl rfl Hr17.out ?_)
 clear p0 p1 p2 Hr17 hPl
 have hst : Strs w17 gvs G.ss := by have := HS.out w17 (HT17.out.mono HSS.out); rwa [HGv.out] at this
 obtain ⟨vc1, wc1, za, zn, zc, wc2, rc1, rc2, oc, bc⟩ := sc_app w17 gvs G.ss nm hst (by omega) 58
 have hg19 := scope_set HG17.out bc oc HSn.out HNm.out (by omega)
 have hx2 := (HG17.out.below bc).box
 have d2 : wc2.cell? ⟨q, 2, none⟩ = some G8.vs := hx2.c2
 have f2 : wc2.frozen? ⟨q, 2, none⟩ = false := hx2.fz 2
 obtain ⟨W19, hW19⟩ : ∃ W19, W19 = wc2.setCell ⟨q, 2, none⟩ (.slice za zn zc) := ⟨_, rfl⟩
 have HW19 : Hid (W19 = wc2.setCell ⟨q, 2, none⟩ (.slice za zn zc)) := hW19
 have ht19 : Tcs (Sq g q) w17 W19 := by rw [hW19]; exact bc.tcs.trans (set_sq wc2 _)
 rw [← hW19] at hg19
 have h1119 : Tcs (Sq g q) w11 W19 := H1117.out.trans ht19
 have hS7 : ∀ k, Sq g q k → k < w7.heap.size := fun k hk => HG7.out.lo.s k (HSS.out k hk)
 have hr19 : SR w.heap.size W19 (.slice da dn dc) _ (1 + 1) := (H17.out.tcs ht19 (fun k hk => Nat.lt_of_lt_of_le (hS7 k hk) (by omega))).low h12s
 have hb19 := H11.out.tcs h1119 hS7
 obtain ⟨v20, w20, r20, h20, t20, f20⟩ := sr_app 59 hr19 hb19 (Nat.le_trans HT17.out.size ht19.size) (by omega) (sr_before H11.out (h1119.mono hS7) h7s (fun k hk => Nat.le_trans h1112 (H17.out.rng k hk).1))
 have Hr20 : Hid _ := r20
 have HF : Hid (StP g a len cap q S K (4 * D + 3) 1 w v20 w20) := by
  refine ⟨_, _, h20.more (by omega), by simp, GS.more ((hg19.sub (S' := Sv S (.slice da dn dc)) (fun k hk => hk.imp .inl id) (.inl HL.out.sg) (.inl HSq.out)).app HL.out HSq.out (fun k hk => (hr19.rng k hk).1) t20 f20 (fun k hk => (h20.rng k hk).2)) (by omega), ?_⟩
  exact (HT17.out.trans ht19).next t20 (fun k hk => .inr (hr19.rng k hk).1)
 have Hrc1 : Hid _ := rc1
 have Hrc2 : Hid _ := rc2
 clear rc1 rc2 oc bc hg19 hx2 hW19 ht19 h1119 hS7 hr19 hb19 r20 h20 t20 f20 hst
 generalize G8.vs = g8v at d2
 go_upto_region 11 with (at_builtin; first
  | refine wpList_appG rfl (.tmp 79) (.tmp 80) _ rfl _ _ _ _ rfl rfl Hrc1.out ?_
  | refine wpList_appG rfl (.tmp 81) (.tmp 83) _ rfl _ _ _ _ rfl rfl Hrc2.out ?_)
 rw [← HW19.out]
 clear d2 f2 HW19 Hrc1 Hrc2
 go_wp2_with (at_builtin; refine wpList_appG rfl _ _ _ rfl _ _ _ _ rfl rfl Hr20.out ?_)
 go_ret
 exact ⟨_, rfl, HF.out⟩
end
end Go.Proofs.YtjhmgjimppflhaaGreatDoor
