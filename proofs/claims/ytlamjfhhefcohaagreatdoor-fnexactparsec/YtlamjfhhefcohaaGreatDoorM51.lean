import Derived.Test.YtlamjfhhefcohaaGreatDoorM50
import Derived.Test.YtlamjfhhefcohaaGreatDoorM27
import Derived.RegionTactic
namespace Go.Proofs.YtlamjfhhefcohaaGreatDoor
set_option linter.unusedVariables false
set_option linter.unusedSimpArgs false
set_option maxRecDepth 100000
set_option maxHeartbeats 16000000
section
open Go.RowKit
def vB (c : UInt8) : Value := .int .u8 (cI c)
def RdB (w : World) (v : Value) (l : List UInt8) : Prop := ∃ a c, v = .slice a l.length c ∧ (0 < l.length → ∃ b off, a = some ⟨b, off, none⟩ ∧ ∀ j (h : j < l.length), w.cell? ⟨b, off + j, none⟩ = some (vB l[j]))
theorem RdB.below {w w' : World} {v : Value} {l : List UInt8} (h : RdB w v l) (hb : Below w.heap.size w w') : RdB w' v l := by
 obtain ⟨a, c, rfl, h⟩ := h
 refine ⟨a, c, rfl, fun hn => ?_⟩
 obtain ⟨b, off, rfl, hc⟩ := h hn
 exact ⟨b, off, rfl, fun j hj => (hb.cell (p := ⟨b, _, none⟩) (World.block_lt_of_cell? _ _ (hc j hj))).trans (hc j hj)⟩
theorem eq_mapB {xs : List Value} {zs : List UInt8} (hl : xs.length = zs.length) (h : ∀ j (hj : j < zs.length), xs[j]? = some (vB zs[j])) : xs = zs.map vB := by
 apply List.ext_getElem?
 intro j
 by_cases hj : j < zs.length
 ·rw [h j hj]
  simp [hj]
 ·simp [hl, hj]
theorem info_u8Z : (Tryz.prog.info? 5).map (fun i => (i.zero, i.size, i.bytes)) = some (some (.int .u8 0), 1, 1) := by kernel_rfl
theorem own_rdB {w : World} {N g : Nat} {l : List UInt8} (h : w.ownsRow N 5 1 (.slice (some ⟨g, 0, none⟩) l.length l.length) l.length (l.map vB)) : Txt w g l ∧ RdB w (.slice (some ⟨g, 0, none⟩) l.length l.length) l := by
 have key : ∀ j (hj : j < l.length), w.cell? ⟨g, j, none⟩ = some (vB l[j]) := fun j hj => by
  have := World.ownsRow.cells h (g := g) rfl j (vB l[j]) (by simp [hj])
  rw [addrO, Nat.zero_add] at this
  exact this
 exact ⟨key, _, _, rfl, fun _ => ⟨g, 0, rfl, fun j hj => by rw [Nat.zero_add]; exact key j hj⟩⟩
set_option maxRecDepth 100000 in
set_option maxHeartbeats 1000000 in
theorem toB_any (v : Value) (l : List UInt8) (w : World) (hl : l.length ≤ 1048576) (h : RdB w v l) :
  Calls Tryz.prog 7 #[v] w fun e w' => ∃ g, e = .returned (.slice (some ⟨g, 0, none⟩) l.length l.length) ∧ w'.ownsRow w.heap.size 5 1 (.slice (some ⟨g, 0, none⟩) l.length l.length) l.length (l.map vB) ∧ Below w.heap.size w w' := by
 obtain ⟨a, cap, rfl, hc⟩ := h
 have HC := hide hc
 clear hc
 obtain ⟨i0, hi, hz0, hz1, hz2⟩ := info_parts info_u8Z
 generalize hlen : l.length = len at hl ⊢
 have HLN := hide hlen
 clear hlen
 go_enter Tryz.func7, Tryz.ntmps7
 go_wp2_with (at_make; refine wpList_make_full _ rfl _ _ 22 rfl w.heap.size 5 i0 (.int .u8 0) 1 Tryz.underlying22 hi hz0 hz1 _ _ _ _ len rfl rfl (by omega) (by omega) ?_ ?_ (Nat.le_refl _) ?_)
 ·rw [hz2]; omega
 ·unfold maxLen; omega
 intro w1 hown1 hgrow1
 have hnx1 : Below w.heap.size w w1 := (Below.refl _ _).grown hgrow1 (Nat.le_refl _) (by simp)
 go_wp2_with fail
 go_loopw [4] (fun i wr => ∃ k : Nat, k ≤ len ∧ i = .int .i64 k ∧ (∃ xs : List Value, wr.ownsRow w.heap.size 5 1 (.slice (some ⟨w.heap.size, 0, none⟩) len len) len xs ∧ ∀ j (hj : j < l.length), j < k → xs[j]? = some (vB l[j])) ∧ Below w.heap.size w wr) (fun i _ => len - (RowKit.intOf i).toNat)
 case atStart => exact ⟨0, Nat.zero_le _, rfl, ⟨_, hown1, fun j _ hj => absurd hj (Nat.not_lt_zero _)⟩, hnx1⟩
 case round =>
  obtain ⟨k, hk, rfl, ⟨xs, hown, hxs⟩, hnx⟩ := hrel
  clear hown1 hgrow1 hnx1
  by_cases hlt : k < len
  ·have hlt' : k < l.length := by rw [HLN.out]; exact hlt
   obtain ⟨b, off, rfl, hcs⟩ := HC.out (by omega)
   have hck := hcs k hlt'
   have hcx := (hnx.cell (p := ⟨b, off + k, none⟩) (World.block_lt_of_cell? _ _ hck)).trans hck
   have hlen : xs.length = len := by have := hown.1; omega
   have hold : wr.cell? ⟨w.heap.size, k, none⟩ = some (xs[k]'(by omega)) := by rw [hown.cellAt k (by omega)]; simp
   have hfz := hown.frozenAt k
   obtain ⟨z, hz⟩ : ∃ z, z = vB l[k] := ⟨_, rfl⟩
   rw [← hz] at hcx
   obtain ⟨zi, rfl⟩ : ∃ zi, z = .int .u8 zi := ⟨_, hz⟩
   have HR := hide (hown.stored k (.int .u8 zi))
   have HX := hide hxs
   have HZ := hide hz
   clear hxs hown hcs hck hz
   go_wp2_with fail
   go_roundw
   case rel =>
    refine ⟨k + 1, by omega, by go_num, ⟨_, HR.out.1, fun j hj hjk => ?_⟩, hnx.setCell (by simp) _⟩
    rw [List.getElem?_set]
    by_cases hjk : k = j
    ·subst hjk; simp [HZ.out]; omega
    ·rw [if_neg hjk]; exact HX.out j hj (by omega)
   case measure => simp [RowKit.intOf]; omega
  ·have HX := hide hxs
   have HO := hide hown
   clear hxs hown
   go_wp2_with fail
   go_ret
   have hl' := HLN.out
   obtain rfl := eq_mapB (xs := xs) (zs := l) (by rw [hl']; have := HO.out.1; omega) (fun j hj => HX.out j hj (by omega))
   exact ⟨_, rfl, HO.out, hnx⟩
set_option maxHeartbeats 1000000 in
theorem eqB_any (v1 v2 : Value) (l : List UInt8) (w : World) (hl : l.length ≤ 100000000) (h1 : RdB w v1 l) (h2 : RdB w v2 l) :
  Calls Tryz.prog 10 #[v1, v2] w fun e w' => e = .returned (.bool true) ∧ Below w.heap.size w w' := by
 obtain ⟨a1, c1, rfl, hc1⟩ := h1
 obtain ⟨a2, c2, rfl, hc2⟩ := h2
 have H1 : Hid (0 < l.length → ∃ b off, a1 = some ⟨b, off, none⟩ ∧ ∀ j (h : j < l.length), w.cell? ⟨b, off + j, none⟩ = some (vB l[j])) := hc1
 have H2 : Hid (0 < l.length → ∃ b off, a2 = some ⟨b, off, none⟩ ∧ ∀ j (h : j < l.length), w.cell? ⟨b, off + j, none⟩ = some (vB l[j])) := hc2
 clear hc1 hc2
 go_enter Tryz.func10, Tryz.ntmps10
 go_wp2_with fail
 go_loopw [5] (fun i wr => ∃ k : Nat, k ≤ l.length ∧ i = .int .i64 k ∧ Below w.heap.size w wr) (fun i _ => l.length - (RowKit.intOf i).toNat)
 case atStart => exact ⟨0, Nat.zero_le _, rfl, Below.refl _ _⟩
 case round =>
  obtain ⟨k, hk, rfl, hB⟩ := hrel
  by_cases hlt : k < l.length
  ·obtain ⟨b1, o1, rfl, hx1⟩ := H1.out (by omega)
   obtain ⟨b2, o2, rfl, hx2⟩ := H2.out (by omega)
   have d1 := hx1 k hlt
   have d2 := hx2 k hlt
   have e1 := (hB.cell (p := ⟨b1, o1 + k, none⟩) (World.block_lt_of_cell? _ _ d1)).trans d1
   have e2 := (hB.cell (p := ⟨b2, o2 + k, none⟩) (World.block_lt_of_cell? _ _ d2)).trans d2
   clear hx1 hx2 d1 d2
   unfold vB at e1 e2
   generalize cI l[k] = z at e1 e2
   go_wp2_with fail
   go_region
   go_wp2_with fail
   go_roundw
   case rel => exact ⟨k + 1, by omega, by go_num, hB.drew⟩
   case measure => simp [RowKit.intOf]; omega
  ·go_wp2_with fail
   go_ret
   exact ⟨rfl, hB⟩
structure Tg (g : Nat) (w w' : World) : Prop where
 still : w'.os = w.os ∧ w'.tape = w.tape ∧ w'.output = w.output
 size : w'.heap.size = w.heap.size
 other : ∀ b, b ≠ g → w'.heap[b]? = w.heap[b]?
theorem Tg.refl (g : Nat) (w : World) : Tg g w w := ⟨⟨rfl, rfl, rfl⟩, rfl, fun _ _ => rfl⟩
theorem Tg.set {g : Nat} {w w' : World} (h : Tg g w w') (o : Nat) (v : Value) : Tg g w (w'.setCell ⟨g, o, none⟩ v) := by
 have hs : Below w'.heap.size w' w' := Below.refl _ _
 have hb0 := (Below.refl 0 w').setCell (p := ⟨g, o, none⟩) (Nat.zero_le _) v
 refine ⟨⟨hb0.os.trans h.still.1, hb0.tape.trans h.still.2.1, hb0.output.trans h.still.2.2⟩, by simpa using h.size, fun b hb => ?_⟩
 rw [← h.other b hb]
 exact Below.heap_setCell _ _ _ b (fun h => hb (by simpa using h))
theorem Tg.below {B g : Nat} {w w' : World} (h : Tg g w w') (hg : B ≤ g) : Below B w w' :=
 ⟨h.still.1, h.still.2.1, h.still.2.2, Nat.le_of_eq h.size.symm, fun k hk => h.other k (by omega)⟩
theorem Tg.cell {g : Nat} {w w' : World} (h : Tg g w w') {b o : Nat} (hb : b ≠ g) : w'.cell? ⟨b, o, none⟩ = w.cell? ⟨b, o, none⟩ := World.cell?_of_block (a := ⟨b, o, none⟩) (h.other b hb)
def mk8 (q j : Nat) : Value := .int .u8 (IntKind.u8.wrap ((q + j : Nat) : Int))
set_option maxHeartbeats 1000000 in
theorem markB_any (g n cap q : Nat) (w : World) (hn : n ≤ 100000000) (hq : q ≤ 100000000) (h : ∀ j, j < n → (∃ y, w.cell? ⟨g, j, none⟩ = some y) ∧ w.frozen? ⟨g, j, none⟩ = false) :
  Calls Tryz.prog 11 #[.slice (some ⟨g, 0, none⟩) n cap, .int .i64 q] w fun e w' => e = .returned (.int .i64 ((q + n : Nat) : Int)) ∧ Tg g w w' ∧ ∀ j, j < n → w'.cell? ⟨g, j, none⟩ = some (mk8 q j) := by
 have H : Hid (∀ j, j < n → (∃ y, w.cell? ⟨g, j, none⟩ = some y) ∧ w.frozen? ⟨g, j, none⟩ = false) := h
 clear h
 go_enter Tryz.func11, Tryz.ntmps11
 go_wp2_with fail
 go_loopw [1, 5] (fun kk i wr => ∃ k : Nat, k ≤ n ∧ i = .int .i64 k ∧ kk = .int .i64 ((q + k : Nat) : Int) ∧ Tg g w wr ∧ (∀ j, j < n → (∃ y, wr.cell? ⟨g, j, none⟩ = some y) ∧ wr.frozen? ⟨g, j, none⟩ = false) ∧ ∀ j, j < k → wr.cell? ⟨g, j, none⟩ = some (mk8 q j)) (fun _ i _ => n - (RowKit.intOf i).toNat)
 case atStart => exact ⟨0, Nat.zero_le _, rfl, rfl, Tg.refl _ _, H.out, fun j hj => absurd hj (by omega)⟩
 case round =>
  obtain ⟨k, hk, rfl, rfl, hT, hO, hM⟩ := hrel
  have HO : Hid (∀ j, j < n → (∃ y, wr.cell? ⟨g, j, none⟩ = some y) ∧ wr.frozen? ⟨g, j, none⟩ = false) := hO
  have HM : Hid (∀ j, j < k → wr.cell? ⟨g, j, none⟩ = some (mk8 q j)) := hM
  clear hO hM
  by_cases hlt : k < n
  ·obtain ⟨⟨y, hy⟩, hfz⟩ := HO.out k hlt
   obtain ⟨z, hz⟩ : ∃ z : Int, z = ((q + k : Nat) : Int) := ⟨_, rfl⟩
   have HZ : Hid (z = ((q + k : Nat) : Int)) := hz
   rw [← hz]
   have hz0 : 0 ≤ z := by omega
   have hz1 : z ≤ 200000000 := by omega
   clear hz
   go_wp2_with fail
   go_roundw
   case rel =>
    refine ⟨k + 1, by omega, by go_num, by rw [HZ.out]; go_num, hT.set _ _, fun j hj => ?_, fun j hj => ?_⟩
    ·by_cases e : j = k
     ·subst e
      exact ⟨⟨_, World.cell?_setCell_same _ _ _ hy⟩, (World.frozen?_setCell _ _ _ _).trans hfz⟩
     ·obtain ⟨⟨y', hy'⟩, hf'⟩ := HO.out j hj
      exact ⟨⟨y', by rw [World.cell?_setCell_other _ _ _ _ (by intro h; simp only [Addr.mk.injEq] at h; omega)]; exact hy'⟩, (World.frozen?_setCell _ _ _ _).trans hf'⟩
    ·by_cases e : j = k
     ·subst e
      rw [World.cell?_setCell_same _ _ _ hy, HZ.out]
      rfl
     ·rw [World.cell?_setCell_other _ _ _ _ (by intro h; simp only [Addr.mk.injEq] at h; omega)]
      exact HM.out j (by omega)
   case measure => simp [RowKit.intOf]; omega
  ·obtain rfl : k = n := by omega
   go_wp2_with fail
   go_ret
   exact ⟨rfl, hT, HM.out⟩
set_option maxRecDepth 100000 in
set_option maxHeartbeats 1000000 in
theorem eqPR_any (x y : Int) (t : Tr) (x1 y1 x2 y2 : Value) (w : World) (hs : smallT t) (h1 : Globs w x1 t.globals) (h2 : Funcs w y1 t.funcs) (h3 : Globs w x2 t.globals) (h4 : Funcs w y2 t.funcs) :
  Calls Tryz.prog 9 #[.agg #[.int .i64 x, .int .i64 y, x1, y1], .agg #[.int .i64 x, .int .i64 y, x2, y2]] w fun e w' => e = .returned (.bool true) ∧ Below w.heap.size w w' := by
 obtain ⟨a1, c1, hx1, -⟩ := id h1
 obtain ⟨a2, c2, hx2, -⟩ := id h2
 obtain ⟨a3, c3, hx3, -⟩ := id h3
 obtain ⟨a4, c4, hx4, -⟩ := id h4
 have HE : Hid (∀ W, Below w.heap.size w W → Calls Tryz.prog 26 #[.agg #[x1, y1], .agg #[x2, y2]] W fun e w' => e = .returned (.bool true) ∧ Below W.heap.size W w') := fun W hW => eqTree_any t x1 y1 x2 y2 W hs (h1.below hW) (h2.below hW) (h3.below hW) (h4.below hW)
 subst hx1 hx2 hx3 hx4
 generalize t.globals.length = gn at *
 generalize t.funcs.length = fn at *
 clear h1 h2 h3 h4 hs
 go_enter Tryz.func9, Tryz.ntmps9
 go_wp2_with fail
 refine (HE.out _ (((Below.refl _ _).alloc (Nat.le_refl _) _).alloc (by simp) _)).mono ?_
 rintro e w5 ⟨rfl, b5⟩
 have hb : Below w.heap.size w w5 := (((Below.refl _ _).alloc (Nat.le_refl _) _).alloc (by simp) _).trans (b5.mono (by simp; omega))
 have HB := hide hb
 clear b5 hb
 go_wp2_with fail
 go_ret
 exact ⟨rfl, HB.out⟩
end
section
open Go.RowKit
theorem TreeOwn.read' {B : Nat} {w : World} {vg vf : Value} {r : Tr} {Q : List FV} (h : TreeOwn B w vg vf r Q) : Globs w vg r.globals ∧ Funcs w vf r.funcs := by
 obtain ⟨K, h1, -⟩ := ROne.of_own h.gs
 refine ⟨globsG h1, ?_⟩
 rw [← h.map]
 exact h.fs.funcs
theorem TreeOwn.bel {B : Nat} {w w' : World} {vg vf : Value} {r : Tr} {Q : List FV} (h : TreeOwn B w vg vf r Q) (hb : Below w.heap.size w w') : TreeOwn B w' vg vf r Q := h.tcs (S := fun _ => False) hb.tcs (fun k h => h.elim)
structure OkT (t : Tr) : Prop where
 sm : smallT t
 g : t.globals.length ≤ 50
 f : t.funcs.length ≤ 50
 ok : ∀ f ∈ t.funcs, OkF f
theorem okT_nil : OkT t00 := ⟨⟨by simp [t00], by simp [t00], fun f hf => by cases hf⟩, by simp [t00], by simp [t00], fun f hf => by cases hf⟩
theorem okT_of {t : Tr} (h : treeB t = true) : OkT t := by
 obtain ⟨h1, h2, h3⟩ := OkF.tree h
 exact ⟨⟨by omega, by omega, fun f hf => (h3 f hf).small⟩, h1, h2, h3⟩
set_option maxRecDepth 100000 in
set_option maxHeartbeats 1000000 in
theorem markPR_own (B : Nat) (x y : Int) (vg vf : Value) (r : Tr) (Q : List FV) (w : World) (hB : B ≤ w.heap.size) (h : TreeOwn B w vg vf r Q) (hk : OkT r) :
  ∃ N : Nat, (N : Int) ≤ 1000000000 ∧ (Calls Tryz.prog 12 #[.agg #[.int .i64 x, .int .i64 y, vg, vf], .int .i64 1] w fun e w' => e = .returned (.int .i64 (N : Int)) ∧ Below B w w' ∧ (∀ k, k < w.heap.size → vg.ownBlock ≠ some k → vf.ownBlock ≠ some k → k ∉ blkF Q → w'.heap[k]? = w.heap[k]?) ∧ ∀ W, Below w'.heap.size w' W → Calls Tryz.prog 13 #[.agg #[.int .i64 x, .int .i64 y, vg, vf], .int .i64 1] W fun e w2 => e = .returned (.int .i64 (N : Int)) ∧ Below W.heap.size W w2) := by
 obtain ⟨W1, eW1⟩ : ∃ W1, W1 = w.alloc (.cells #[.int .i64 x, .int .i64 y, vg, vf] 28) := ⟨_, rfl⟩
 have hb1 : Below w.heap.size w W1 := by rw [eW1]; exact (Below.refl _ _).alloc (Nat.le_refl _) _
 obtain ⟨P, eP⟩ : ∃ P, P = w.heap.size := ⟨_, rfl⟩
 have hx1 : FrC W1 P [.int .i64 x, .int .i64 y, vg, vf] := by rw [eW1, eP]; exact box_fr w #[.int .i64 x, .int .i64 y, vg, vf] _ (by show 4 ≤ 1000; omega)
 obtain ⟨N, hN, hM⟩ := mark_own B vg vf r Q W1 (Nat.le_trans hB hb1.size) (h.bel hb1) hk.g hk.f hk.ok
 refine ⟨N, hN, ?_⟩
 obtain ⟨ga, gc, hge, -⟩ := own_shape h.gs
 obtain ⟨fa, fc, hfe⟩ := h.fs.shape
 generalize r.globals.length = gn at hge
 generalize Q.length = fn at hfe
 subst hge hfe
 have HM := hide hM
 have HW1 := hide eW1
 have HB := hide (And.intro hB hb1)
 have HN := hide hN
 have hn0 : (0 : Int) ≤ (N : Int) := by omega
 generalize (N : Int) = n at *
 have c2 := hx1 2 _ rfl
 have c3 := hx1 3 _ rfl
 have HP := hide eP
 clear hM eW1 hB hb1 h hk hN hx1 eP
 go_enter Tryz.func12, Tryz.ntmps12
 go_upto_region 1 with fail
 rw [← HW1.out, ← HP.out]
 go_wp2_with fail
 refine HM.out.mono ?_
 rintro e w2 ⟨rfl, b2, hfr, hH⟩
 have HFr := hide hfr
 have HH := hide hH
 have HB2 : Hid (Below B w w2) := (HB.out.2.mono HB.out.1).trans b2
 clear b2 hH c2 c3 hfr
 go_wp2_with fail
 go_ret
 refine ⟨rfl, HB2.out, fun k hk n1 n2 n3 => (HFr.out k (Nat.lt_of_lt_of_le hk HB.out.2.size) n1 n2 n3).trans (HB.out.2.block k hk), fun W hW => ?_⟩
 obtain ⟨W3, eW3⟩ : ∃ W3, W3 = W.alloc (.cells #[.int .i64 x, .int .i64 y, .slice ga gn gc, .slice fa fn fc] 28) := ⟨_, rfl⟩
 obtain ⟨R, eR⟩ : ∃ R, R = W.heap.size := ⟨_, rfl⟩
 have hb3 : Below W.heap.size W W3 := by rw [eW3]; exact (Below.refl _ _).alloc (Nat.le_refl _) _
 have hx3 : FrC W3 R [.int .i64 x, .int .i64 y, .slice ga gn gc, .slice fa fn fc] := by rw [eW3, eR]; exact box_fr W #[.int .i64 x, .int .i64 y, .slice ga gn gc, .slice fa fn fc] _ (by show 4 ≤ 1000; omega)
 have d2 := hx3 2 _ rfl
 have d3 := hx3 3 _ rfl
 have HC := hide (HH.out W3 (hW.trans (hb3.mono hW.size)))
 have HW3 := hide eW3
 have HR := hide eR
 have HB3 := hide hb3
 clear hx3 hb3 eW3 eR
 go_enter Tryz.func13, Tryz.ntmps13
 go_upto_region 1 with fail
 rw [← HW3.out, ← HR.out]
 go_wp2_with fail
 refine HC.out.mono ?_
 rintro e w4 ⟨rfl, b4⟩
 have HF : Hid (Below W.heap.size W w4) := HB3.out.trans (b4.mono HB3.out.size)
 clear b4 d2 d3
 go_wp2_with fail
 go_ret
 exact ⟨rfl, by first | exact HF.out | (rw [HR.out]; exact HF.out)⟩
end
section
open Go.RowKit
theorem both_parse (l : List UInt8) (w : World) (hl : l.length ≤ 1048576) (hTab : Tab w) (hbt : w.rangeAt 7 0 binCs) (her : Erv w) (hgb : 7 < w.heap.size) (hlas : ∃ K, Las (tokT l) K ∧ K ≤ l.length) :
  ∃ r : Int × Int × Tr, OkT r.2.2 ∧ (∀ W g, Txt W g l → g < W.heap.size → Calls Tryz.prog 6 #[.slice (some ⟨g, 0, none⟩) l.length l.length] W (PcA l r W)) ∧ (∀ W g, Txt W g l → g < W.heap.size → Below w.heap.size w W → Calls Tryz.prog 8 #[.slice (some ⟨g, 0, none⟩) l.length l.length] W (PcI r W)) := by
 by_cases hb : 20000 < l.length
 ·exact ⟨(1, 0, t00), okT_nil, fun W g _ _ => parseG_big W g _ l hb (by omega), fun W g _ _ _ => parsI_big W g _ l hb (by omega)⟩
 ·obtain ⟨K, hK, hKl⟩ := hlas
  obtain ⟨k, t, s, hR⟩ := rn_ends hK hKl
  refine ⟨ansR l t s, ?_, fun W g h1 h2 => parseG_any W g _ l h1 h2 (by omega) (Nat.le_refl _) hR, fun W g h1 h2 hW => parsI_any W g _ l h1 h2 (by omega) (Nat.le_refl _) (fun j v hv => (World.cell?_of_block (a := ⟨7, 0 + j, none⟩) (hW.block 7 hgb)).trans (hbt j v hv)) (her.tcs (S := fun _ => False) hW.tcs (fun h => h)) (hTab.below hTab.size hW) (Nat.lt_of_lt_of_le hgb hW.size) hR⟩
  unfold ansR
  split
  ·exact okT_nil
  ·split
   ·rename_i h; exact okT_of h
   ·exact okT_nil
theorem Tg.tcs {g : Nat} {w w' : World} (h : Tg g w w') : Tcs (fun k => k = g) w w' := ⟨h.still.1, h.still.2.1, h.still.2.2, Nat.le_of_eq h.size.symm, fun k _ hn => h.other k hn⟩
set_option maxRecDepth 100000 in
set_option maxHeartbeats 4000000 in
theorem law_parse (v : Value) (l : List UInt8) (w : World) (h : RdB w v l) (hm : l.length ≤ 9223372036854775807) (hTab : Tab w) (hbt : w.rangeAt 7 0 binCs) (her : Erv w) (hgb : 7 < w.heap.size) (hlas : ∃ K, Las (tokT l) K ∧ K ≤ l.length) :
  Calls Tryz.prog 3 #[v] w fun e w' => e = .returned (.bool true) ∧ Below w.heap.size w w' := by
 obtain ⟨va, vc, hve, hvc⟩ := id h
 by_cases hbig : 1048576 < l.length
 ·subst hve
  clear h hvc hTab hbt her hgb hlas
  go_enter Tryz.func3, Tryz.ntmps3
  go_wp2_with fail
  go_ret
  exact ⟨rfl, Below.refl _ _⟩
 have hl : l.length ≤ 1048576 := by omega
 obtain ⟨r, hok, hG, hI⟩ := both_parse l w hl hTab hbt her hgb hlas
 have HTo : Hid (∀ W, Below w.heap.size w W → Calls Tryz.prog 7 #[v] W fun e w' => ∃ g, e = .returned (.slice (some ⟨g, 0, none⟩) l.length l.length) ∧ w'.ownsRow W.heap.size 5 1 (.slice (some ⟨g, 0, none⟩) l.length l.length) l.length (l.map vB) ∧ Below W.heap.size W w') := fun W hW => toB_any v l W hl (h.below hW)
 have HG := hide hG
 have HI := hide hI
 have HOk := hide hok
 subst hve
 obtain ⟨x, y, t⟩ := r
 dsimp only at *
 obtain ⟨n, hn⟩ : ∃ n, n = l.length := ⟨_, rfl⟩
 have HL := hide hl
 clear h hvc hTab hbt her hgb hlas hG hI hok hbig hm
 go_enter Tryz.func3, Tryz.ntmps3
 go_wp2_with fail
 refine (HTo.out w (Below.refl _ _)).mono ?_
 rintro e w1 ⟨g1, rfl, o1, b1⟩
 have hg1 := (World.ownsRow.lt o1 g1 rfl).2
 have HC1 := hide (HG.out w1 g1 (own_rdB o1).1 hg1)
 clear o1 hg1
 go_wp2_with fail
 refine HC1.out.mono ?_
 rintro e w2 ⟨vg0, vf0, rfl, G0, F0, b2⟩
 have bw2 : Below w.heap.size w w2 := b1.trans (b2.mono b1.size)
 dsimp only at G0 F0
 obtain ⟨a0, c0, hvg0, -⟩ := id G0
 obtain ⟨a0', c0', hvf0, -⟩ := id F0
 obtain ⟨W3, eW3⟩ : ∃ W3, W3 = w2.alloc (.cells #[.int .i64 x, .int .i64 y, vg0, vf0] 28) := ⟨_, rfl⟩
 obtain ⟨B3, eB3⟩ : ∃ B3, B3 = w2.heap.size := ⟨_, rfl⟩
 have b3 : Below w2.heap.size w2 W3 := by rw [eW3]; exact (Below.refl _ _).alloc (Nat.le_refl _) _
 have x3 : FrC W3 B3 [.int .i64 x, .int .i64 y, vg0, vf0] := by rw [eW3, eB3]; exact box_fr w2 #[.int .i64 x, .int .i64 y, vg0, vf0] _ (by show 4 ≤ 1000; omega)
 have HI3 := hide (And.intro (bw2.trans (b3.mono bw2.size)) (And.intro x3 (And.intro (G0.below b3) (F0.below b3))))
 have HW3 := hide eW3
 have HB3 := hide eB3
 subst hvg0 hvf0
 clear b1 b2 bw2 G0 F0 eW3 eB3 b3 x3 HC1
 go_upto_region 4 with fail
 rw [← HW3.out, ← HB3.out]
 go_wp2_with fail
 refine (HTo.out W3 HI3.out.1).mono ?_
 rintro e w4 ⟨g4, rfl, o4, b4⟩
 have hg4 := World.ownsRow.lt o4 g4 rfl
 have bw4 : Below w.heap.size w w4 := HI3.out.1.trans (b4.mono HI3.out.1.size)
 have HC4 := hide (HI.out w4 g4 (own_rdB o4).1 hg4.2 bw4)
 have HO4 := hide (And.intro o4 (And.intro hg4 (And.intro b4 bw4)))
 clear o4 hg4 b4 bw4
 go_wp2_with fail
 refine HC4.out.mono ?_
 rintro e w5 ⟨vg5, vf5, Q, rfl, T5, b5⟩
 dsimp only at T5
 obtain ⟨a5, c5, hvg5, -⟩ := own_shape T5.gs
 obtain ⟨a5', c5', hvf5⟩ := T5.fs.shape
 obtain ⟨gn5, hgn5⟩ : ∃ k, k = t.globals.length := ⟨_, rfl⟩
 obtain ⟨fn5, hfn5⟩ : ∃ k, k = Q.length := ⟨_, rfl⟩
 obtain ⟨W6, eW6⟩ : ∃ W6, W6 = w5.alloc (.cells #[.int .i64 x, .int .i64 y, vg5, vf5] 28) := ⟨_, rfl⟩
 obtain ⟨B6, eB6⟩ : ∃ B6, B6 = w5.heap.size := ⟨_, rfl⟩
 have HOw : Hid (w4.heap.size ≤ B6 ∧ (∀ k, vg5.ownBlock = some k → k < B6) ∧ (∀ k, vf5.ownBlock = some k → k < B6) ∧ ∀ k ∈ blkF Q, k < B6) := by
  rw [eB6]
  exact ⟨b5.size, fun k hk => (World.ownsRow.lt T5.gs k hk).2, fun k hk => (World.ownsRow.lt T5.fs.row k hk).2, fun k hk => (T5.fs.rng k hk).2⟩
 have b6 : Below w5.heap.size w5 W6 := by rw [eW6]; exact (Below.refl _ _).alloc (Nat.le_refl _) _
 have x6 : FrC W6 B6 [.int .i64 x, .int .i64 y, vg5, vf5] := by rw [eW6, eB6]; exact box_fr w5 #[.int .i64 x, .int .i64 y, vg5, vf5] _ (by show 4 ≤ 1000; omega)
 have b46 : Below w4.heap.size w4 W6 := b5.trans (b6.mono b5.size)
 have b36 : Below W3.heap.size W3 W6 := HO4.out.2.2.1.trans (b46.mono HO4.out.2.2.1.size)
 have HI6 := hide (And.intro b46 (And.intro b36 (And.intro x6 (And.intro (T5.bel b6) eB6))))
 have HW6 := hide eW6
 have HB6 := hide eB6
 rw [← hgn5] at hvg5
 rw [← hfn5] at hvf5
 subst hvg5 hvf5
 have y3 := HI3.out.2.1.below b36
 have x60 := x6 0 _ rfl
 have x61 := x6 1 _ rfl
 have x62 := x6 2 _ rfl
 have x63 := x6 3 _ rfl
 have y30 := y3 0 _ rfl
 have y31 := y3 1 _ rfl
 have y32 := y3 2 _ rfl
 have y33 := y3 3 _ rfl
 clear T5 b5 eW6 eB6 b6 x6 b46 b36 hgn5 hfn5 HC4 y3
 go_upto_region 6 with fail
 rw [← HW6.out, ← HB6.out]
 go_wp2_with fail
 have G6 := HI3.out.2.2.1.below HI6.out.2.1
 have F6 := HI3.out.2.2.2.below HI6.out.2.1
 refine (eqPR_any x y t _ _ _ _ W6 HOk.out.sm HI6.out.2.2.2.1.read'.1 HI6.out.2.2.2.1.read'.2 G6 F6).mono ?_
 rintro e w7 ⟨rfl, b7⟩
 have T7 := HI6.out.2.2.2.1.bel b7
 have x7 := HI6.out.2.2.1.below b7
 have b47 : Below w4.heap.size w4 w7 := HI6.out.1.trans (b7.mono HI6.out.1.size)
 have HI7 := hide (And.intro b47 (And.intro T7 x7))
 have bw7 := HO4.out.2.2.2.trans (b47.mono HO4.out.2.2.2.size)
 have HT7 := hide (HTo.out w7 bw7)
 have HS6 := hide b7.size
 clear T7 x7 b47 bw7 b7 G6 F6 x60 x61 x62 x63 y30 y31 y32 y33
 go_wp2_with fail
 refine HT7.out.mono ?_
 rintro e w8 ⟨g8, rfl, o8, b8⟩
 have b48 := HI7.out.1.trans (b8.mono HI7.out.1.size)
 have HE8 := hide (eqB_any (.slice (some ⟨g4, 0, none⟩) l.length l.length) (.slice (some ⟨g8, 0, none⟩) l.length l.length) l w8 (by omega) ((own_rdB HO4.out.1).2.below b48) (own_rdB o8).2)
 have HI8 := hide (And.intro b48 (And.intro (HI7.out.2.1.bel b8) (HI7.out.2.2.below b8)))
 clear o8 b48 b8 HT7
 go_wp2_with fail
 refine HE8.out.mono ?_
 rintro e w9 ⟨rfl, b9⟩
 have b49 := HI8.out.1.trans (b9.mono HI8.out.1.size)
 have o9 := ownB HO4.out.1 b49
 have HM9 := hide (markB_any g4 l.length l.length 1 w9 (by omega) (by omega) (fun j hj => ⟨⟨_, o9.cellAt j (by simpa using hj) |>.trans (List.getElem?_eq_getElem (by simpa using hj))⟩, o9.frozenAt j⟩))
 have HI9 := hide (And.intro b49 (And.intro (HI8.out.2.1.bel b9) (HI8.out.2.2.below b9)))
 clear b49 o9 b9 HE8
 go_wp2_with fail
 refine HM9.out.mono ?_
 rintro e w10 ⟨rfl, tg, -⟩
 have hg4 := HO4.out.2.1
 have t10 := tg.tcs
 have T10 := HI9.out.2.1.tcs t10 (fun k hk => by rw [hk]; exact hg4.2)
 have b39 : Below W3.heap.size W3 w9 := HO4.out.2.2.1.trans (HI9.out.1.mono HO4.out.2.2.1.size)
 have b310 : Below W3.heap.size W3 w10 := b39.trans (tg.below hg4.1)
 have hB6 : g4 ≠ B6 := by have := HOw.out.1; have := hg4.2; omega
 have x10 := HI9.out.2.2.tcs (World.block_lt_of_cell? _ _ (HI9.out.2.2 0 _ rfl).1) t10 (fun e => hB6 e.symm)
 have y10 := HI3.out.2.1.below b310
 have G10 := HI3.out.2.2.1.below b310
 have F10 := HI3.out.2.2.2.below b310
 have HE10 := hide (eqPR_any x y t _ _ _ _ w10 HOk.out.sm T10.read'.1 T10.read'.2 G10 F10)
 have x0 := x10 0 _ rfl
 have x1 := x10 1 _ rfl
 have x2 := x10 2 _ rfl
 have x3 := x10 3 _ rfl
 have y0 := y10 0 _ rfl
 have y1 := y10 1 _ rfl
 have y2 := y10 2 _ rfl
 have y3 := y10 3 _ rfl
 have HI10 := hide (And.intro b310 (And.intro T10 (And.intro x10 y10)))
 have hkk : decide (((1 + l.length : Nat) : Int) < 0) = false := by simp; omega
 clear tg t10 T10 b39 b310 x10 y10 G10 F10 HM9
 go_wp2_with fail
 refine HE10.out.mono ?_
 rintro e w11 ⟨rfl, b11⟩
 have T11 := HI10.out.2.1.bel b11
 have x11 := HI10.out.2.2.1.below b11
 have b311 := HI10.out.1.trans (b11.mono HI10.out.1.size)
 have h34 : W3.heap.size ≤ w4.heap.size := HO4.out.2.2.1.size
 have h411 : w4.heap.size ≤ w11.heap.size := by
  have h1 := World.block_lt_of_cell? _ _ (x11 0 _ rfl).1
  have h2 := HOw.out.1
  simp only at h1
  omega
 obtain ⟨N, hN, hM⟩ := markPR_own w4.heap.size x y _ _ t Q w11 h411 T11 HOk.out
 have HMk := hide hM
 have z2 := x11 2 _ rfl
 have z3 := x11 3 _ rfl
 have z0 := x11 0 _ rfl
 have z1 := x11 1 _ rfl
 have HI11 := hide (And.intro b311 (And.intro x11 (And.intro h34 h411)))
 have hn0 : (0 : Int) ≤ (N : Int) := by omega
 clear T11 x11 b311 h34 h411 hM b11 x0 x1 x2 x3 y0 y1 y2 y3 HE10 hkk
 generalize (N : Int) = nn at *
 go_wp2_with fail
 refine HMk.out.mono ?_
 rintro e w12 ⟨rfl, b12, fr12, hH⟩
 have hlt6 := World.block_lt_of_cell? _ _ z0.1
 have x12 := HI11.out.2.1.keep (fr12 B6 hlt6 (fun e => by have := HOw.out.2.1 _ e; omega) (fun e => by have := HOw.out.2.2.1 _ e; omega) (fun e => by have := HOw.out.2.2.2 _ e; omega))
 have b312 := HI11.out.1.trans (b12.mono HI11.out.2.2.1)
 have HH := hide (hH w12 (Below.refl _ _))
 have q0 := x12 0 _ rfl
 have q1 := x12 1 _ rfl
 have q2 := x12 2 _ rfl
 have q3 := x12 3 _ rfl
 have HI12 := hide b312
 clear z0 z1 z2 z3 hlt6 fr12 hH b12 b312 x12 HMk
 go_wp2_with fail
 refine HH.out.mono ?_
 rintro e w13 ⟨rfl, b13⟩
 have b313 := HI12.out.trans (b13.mono HI12.out.size)
 have bw13 := HI3.out.1.trans (b313.mono HI3.out.1.size)
 have HT13 := hide (HTo.out w13 bw13)
 have HI13 := hide (And.intro b313 bw13)
 clear b13 b313 bw13 q0 q1 q2 q3 HH
 go_wp2_with fail
 refine HT13.out.mono ?_
 rintro e w14 ⟨g14, rfl, o14, b14⟩
 have bw14 := HI13.out.2.trans (b14.mono HI13.out.2.size)
 have HC14 := hide (HI.out w14 g14 (own_rdB o14).1 (World.ownsRow.lt o14 g14 rfl).2 bw14)
 have HI14 := hide (And.intro (HI13.out.1.trans (b14.mono HI13.out.1.size)) bw14)
 clear o14 b14 bw14 HT13
 go_wp2_with fail
 refine HC14.out.mono ?_
 rintro e w15 ⟨vg15, vf15, Q15, rfl, T15, b15⟩
 dsimp only at T15
 obtain ⟨a15, c15, hvg15, -⟩ := own_shape T15.gs
 obtain ⟨a15', c15', hvf15⟩ := T15.fs.shape
 obtain ⟨gn15, hgn15⟩ : ∃ k, k = t.globals.length := ⟨_, rfl⟩
 obtain ⟨fn15, hfn15⟩ : ∃ k, k = Q15.length := ⟨_, rfl⟩
 obtain ⟨W16, eW16⟩ : ∃ W16, W16 = w15.alloc (.cells #[.int .i64 x, .int .i64 y, vg15, vf15] 28) := ⟨_, rfl⟩
 obtain ⟨B16, eB16⟩ : ∃ B16, B16 = w15.heap.size := ⟨_, rfl⟩
 have b16 : Below w15.heap.size w15 W16 := by rw [eW16]; exact (Below.refl _ _).alloc (Nat.le_refl _) _
 have x16 : FrC W16 B16 [.int .i64 x, .int .i64 y, vg15, vf15] := by rw [eW16, eB16]; exact box_fr w15 #[.int .i64 x, .int .i64 y, vg15, vf15] _ (by show 4 ≤ 1000; omega)
 have b1416 := b15.trans (b16.mono b15.size)
 have b316 := HI14.out.1.trans (b1416.mono HI14.out.1.size)
 have bw16 := HI14.out.2.trans (b1416.mono HI14.out.2.size)
 have y16 := HI3.out.2.1.below b316
 have T16 := T15.bel b16
 have HE16 := hide (eqPR_any x y t _ _ _ _ W16 HOk.out.sm T16.read'.1 T16.read'.2 (HI3.out.2.2.1.below b316) (HI3.out.2.2.2.below b316))
 have HW16 := hide eW16
 have HB16 := hide eB16
 have HBw := hide bw16
 rw [← hgn15] at hvg15
 rw [← hfn15] at hvf15
 subst hvg15 hvf15
 have x0 := x16 0 _ rfl
 have x1 := x16 1 _ rfl
 have x2 := x16 2 _ rfl
 have x3 := x16 3 _ rfl
 have y0 := y16 0 _ rfl
 have y1 := y16 1 _ rfl
 have y2 := y16 2 _ rfl
 have y3 := y16 3 _ rfl
 clear T15 b15 eW16 eB16 b16 x16 b1416 b316 bw16 y16 T16 hgn15 hfn15 HC14
 go_upto_region 23 with fail
 rw [← HW16.out, ← HB16.out]
 go_wp2_with fail
 refine HE16.out.mono ?_
 rintro e w17 ⟨rfl, b17⟩
 have HF : Hid (Below w.heap.size w w17) := HBw.out.trans (b17.mono HBw.out.size)
 clear b17
 go_wp2_with fail
 go_ret
 exact ⟨rfl, HF.out⟩
theorem las_ex (l : List UInt8) : ∃ K, Las (tokT l) K ∧ K ≤ l.length := by
 obtain ⟨K, h1, h2, h3⟩ := tok_last l
 exact ⟨K, ⟨h3, h2, fun i => (tokT_kind l i).1⟩, h1⟩
end
end Go.Proofs.YtlamjfhhefcohaaGreatDoor
