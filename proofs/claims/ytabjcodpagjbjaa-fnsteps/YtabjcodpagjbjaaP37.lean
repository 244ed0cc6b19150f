import Derived.Test.YtabjcodpagjbjaaP23
import Derived.Test.YtabjcodpagjbjaaP36
import Derived.Deep.CutRange
import Derived.Deep.RegionLaw
import Derived.Deep.AppendLies
import Derived.Test.YtabjcodpagjbjaaP35
namespace Go.Proofs.Ytabjcodpagjbjaa
open Go.RowKit
set_option linter.unusedVariables false
set_option linter.unusedSimpArgs false
theorem shapeNo (op : Int) (w : World) (h : op < 1 ∨ 34 < op) :
    Calls Try.prog 53 #[.int .i64 op] w fun e w' => e = .returned (.int .u8 73) ∧ w' = w := by
  rcases h with h | h
  all_goals
    go_enter Try.func53, Try.ntmps53
    go_wp2
    go_ret
    exact ⟨rfl, rfl⟩
theorem op_cls (op : Int) : (op < 1 ∨ 34 < op) ∨ op = 1 ∨ op = 2 ∨ (4 ≤ op ∧ op ≤ 9) ∨ op = 11 ∨ (18 ≤ op ∧ op ≤ 20) ∨ (21 ≤ op ∧ op ≤ 33) ∨ op = 34 ∨ (op = 3 ∨ op = 10 ∨ (12 ≤ op ∧ op ≤ 17)) := by omega
theorem shape_any (op : Int) (w : World) :
    Calls Try.prog 53 #[.int .i64 op] w fun e w' => (∃ s : Int, e = .returned (.int .u8 s) ∧ 0 ≤ s ∧ s ≤ 255) ∧ w' = w := by
  rcases op_cls op with h | h | h | h | h | h | h | h | h
  · exact (shapeNo op w h).mono (fun e w' x => ⟨⟨_, x.1, by omega, by omega⟩, x.2⟩)
  · exact (shapeU op w h).mono (fun e w' x => ⟨⟨_, x.1, by omega, by omega⟩, x.2⟩)
  · exact (shapeJ op w h).mono (fun e w' x => ⟨⟨_, x.1, by omega, by omega⟩, x.2⟩)
  · exact (shapeB op w h).mono (fun e w' x => ⟨⟨_, x.1, by omega, by omega⟩, x.2⟩)
  · exact (shapeS op w h).mono (fun e w' x => ⟨⟨_, x.1, by omega, by omega⟩, x.2⟩)
  · exact (shapeH op w h).mono (fun e w' x => ⟨⟨_, x.1, by omega, by omega⟩, x.2⟩)
  · exact (shapeR op w h).mono (fun e w' x => ⟨⟨_, x.1, by omega, by omega⟩, x.2⟩)
  · exact (shapeE op w h).mono (fun e w' x => ⟨⟨_, x.1, by omega, by omega⟩, x.2⟩)
  · exact (shapeI op w h).mono (fun e w' x => ⟨⟨_, x.1, by omega, by omega⟩, x.2⟩)
theorem enc_any (op rd s1 s2 im : Int) (w : World) :
    Calls Try.prog 55 #[.agg #[.int .i64 op, .int .i64 rd, .int .i64 s1, .int .i64 s2, .int .i64 im]] w fun e w' => (∃ z : Int, e = .returned (.int .u32 z) ∧ 0 ≤ z ∧ z ≤ 4294967295) ∧ Below w.heap.size w w' := by
  have o1 := oc_bd op
  have o2 := f3_bd op
  have o3 := f7_bd op
  rcases op_cls op with h | h | h | h | h | h | h | h | h
  · exact (encNo op rd s1 s2 im w (fun W => spNo op rd s1 s2 im W h)).mono (fun e w' x => ⟨⟨_, x.1, by omega, by omega⟩, x.2⟩)
  · cases hv : vU rd s1 s2 im
    · exact (encNo op rd s1 s2 im w (fun W => (spU op rd s1 s2 im W h).mono (fun e w' x => ⟨by rw [x.1, hv], x.2⟩))).mono (fun e w' x => ⟨⟨_, x.1, by omega, by omega⟩, x.2⟩)
    · exact (encU op rd s1 s2 im w h hv).mono (fun e w' x => ⟨⟨_, x.1, by omega, by omega⟩, x.2⟩)
  · cases hv : vJ rd s1 s2 im
    · exact (encNo op rd s1 s2 im w (fun W => (spJ op rd s1 s2 im W h).mono (fun e w' x => ⟨by rw [x.1, hv], x.2⟩))).mono (fun e w' x => ⟨⟨_, x.1, by omega, by omega⟩, x.2⟩)
    · exact (encJ op rd s1 s2 im w h hv).mono (fun e w' x => ⟨⟨_, x.1, by omega, by omega⟩, x.2⟩)
  · cases hv : vB rd s1 s2 im
    · exact (encNo op rd s1 s2 im w (fun W => (spB op rd s1 s2 im W h).mono (fun e w' x => ⟨by rw [x.1, hv], x.2⟩))).mono (fun e w' x => ⟨⟨_, x.1, by omega, by omega⟩, x.2⟩)
    · exact (encB op rd s1 s2 im w h hv).mono (fun e w' x => ⟨⟨_, x.1, by omega, by omega⟩, x.2⟩)
  · cases hv : vS rd s1 s2 im
    · exact (encNo op rd s1 s2 im w (fun W => (spS op rd s1 s2 im W h).mono (fun e w' x => ⟨by rw [x.1, hv], x.2⟩))).mono (fun e w' x => ⟨⟨_, x.1, by omega, by omega⟩, x.2⟩)
    · exact (encS op rd s1 s2 im w h hv).mono (fun e w' x => ⟨⟨_, x.1, by omega, by omega⟩, x.2⟩)
  · cases hv : vH rd s1 s2 im
    · exact (encNo op rd s1 s2 im w (fun W => (spH op rd s1 s2 im W h).mono (fun e w' x => ⟨by rw [x.1, hv], x.2⟩))).mono (fun e w' x => ⟨⟨_, x.1, by omega, by omega⟩, x.2⟩)
    · exact (encH op rd s1 s2 im w h hv).mono (fun e w' x => ⟨⟨_, x.1, by omega, by omega⟩, x.2⟩)
  · cases hv : vR rd s1 s2 im
    · exact (encNo op rd s1 s2 im w (fun W => (spR op rd s1 s2 im W h).mono (fun e w' x => ⟨by rw [x.1, hv], x.2⟩))).mono (fun e w' x => ⟨⟨_, x.1, by omega, by omega⟩, x.2⟩)
    · exact (encR op rd s1 s2 im w h hv).mono (fun e w' x => ⟨⟨_, x.1, by omega, by omega⟩, x.2⟩)
  · cases hv : vE rd s1 s2 im
    · exact (encNo op rd s1 s2 im w (fun W => (spE op rd s1 s2 im W h).mono (fun e w' x => ⟨by rw [x.1, hv], x.2⟩))).mono (fun e w' x => ⟨⟨_, x.1, by omega, by omega⟩, x.2⟩)
    · exact (encE op rd s1 s2 im w h hv).mono (fun e w' x => ⟨⟨_, x.1, by omega, by omega⟩, x.2⟩)
  · cases hv : vI rd s1 s2 im
    · exact (encNo op rd s1 s2 im w (fun W => (spI op rd s1 s2 im W h).mono (fun e w' x => ⟨by rw [x.1, hv], x.2⟩))).mono (fun e w' x => ⟨⟨_, x.1, by omega, by omega⟩, x.2⟩)
    · exact (encI op rd s1 s2 im w h hv).mono (fun e w' x => ⟨⟨_, x.1, by omega, by omega⟩, x.2⟩)
end Go.Proofs.Ytabjcodpagjbjaa

namespace Go.Proofs.Ytabjcodpagjbjaa
open Go.RowKit
set_option linter.unusedVariables false
set_option linter.unusedSimpArgs false

theorem Xs.new {g : Nat} {a : Option Addr} {len cap : Nat} {w w5 : World} (hc : Cur g a len cap w5) (ht : Tch g w w5) (ty : TypeId) (p q r s t : Int) : Xs g a len cap w w5 (w5.alloc (.cells #[.int .i64 p, .int .i64 q, .int .i64 r, .int .i64 s, .int .i64 t] ty)) p q r s t :=
  ⟨hc.alloc _, ht.alloc _, (Sm.refl _ _ _).alloc (Nat.le_refl _) _, by simp, by simp, by simp, by simp, by simp, by simp, fun j => by simp⟩
theorem Im.drew {R bm : Nat} {d b : Int} {v : Value} {zs : List Int} {W : World} (h : Im R bm d b v zs W) : Im R bm d b v zs W.drew := h.sm ⟨rfl, rfl, rfl, Nat.le_refl _, fun _ _ _ => rfl⟩
theorem Im.below {R bm : Nat} {d b : Int} {v : Value} {zs : List Int} {W W' : World} (h : Im R bm d b v zs W) (hb : Below W.heap.size W W') : Im R bm d b v zs W' := h.sm ((Sm.refl _ _ _).below hb (Nat.le_refl _))
theorem Im.alloc {R bm : Nat} {d b : Int} {v : Value} {zs : List Int} {W : World} (h : Im R bm d b v zs W) (o : Obj) : Im R bm d b v zs (W.alloc o) := h.sm ((Sm.refl _ _ _).alloc (Nat.le_refl _) _)
theorem Im.app {R bm : Nat} {d b : Int} {v : Value} {zs : List Int} {W W' : World} (h : Im R bm d b v zs W) (hg : W.grownBy W' v.ownBlock) {v' : Value} {z : Int} (ho : W'.ownsRow (bm + 1) 30 1 v' (zs.length + 1) (zs.map (Value.int .u32) ++ [.int .u32 z])) (hz : 0 ≤ z ∧ z ≤ 4294967295) : Im R bm d b v' (zs ++ [z]) (W'.setCell ⟨bm, 0, none⟩ v') := by
  have l1 := h.le
  have l2 := h.lt
  have hsz := hg.size
  have ne : ∀ q, q ≤ bm → ¬ v.ownBlock = some q := fun q hq e => by have := (own_block h.own q e); omega
  have e : ∀ q j, q ≤ bm → W'.cell? ⟨q, j, none⟩ = W.cell? ⟨q, j, none⟩ := fun q j h1 => World.cell?_of_block ((grown_tcs hg).block q (by omega) (ne q h1))
  have f : ∀ q j, q ≤ bm → W'.frozen? ⟨q, j, none⟩ = W.frozen? ⟨q, j, none⟩ := fun q j h1 => World.frozen?_of_block ((grown_tcs hg).block q (by omega) (ne q h1))
  have n : ∀ q j, (⟨bm, 0, none⟩ : Addr) ≠ ⟨q, j, none⟩ → (W'.setCell ⟨bm, 0, none⟩ v').cell? ⟨q, j, none⟩ = W'.cell? ⟨q, j, none⟩ := fun q j hn => World.cell?_setCell_other _ _ _ _ hn
  have nr : ∀ j, (⟨bm, 0, none⟩ : Addr) ≠ ⟨R, j, none⟩ := fun j e => by injection e with e1; omega
  refine ⟨l1, by simp; omega, World.cell?_setCell_same _ _ _ ((e bm 0 (Nat.le_refl _)).trans h.c0), ((n bm 1 (by simp)).trans (e bm 1 (Nat.le_refl _))).trans h.c1, ((n bm 2 (by simp)).trans (e bm 2 (Nat.le_refl _))).trans h.c2, fun j => by simpa using (f bm j (Nat.le_refl _)).trans (h.fz j), ?_, ?_, ?_, fun j => by simpa using (f R j (by omega)).trans (h.rf j), ?_, ?_⟩
  · obtain ⟨u, hu⟩ := h.r0
    exact ⟨u, ((n R 0 (nr 0)).trans (e R 0 (by omega))).trans hu⟩
  · obtain ⟨u, hu⟩ := h.r1
    exact ⟨u, ((n R 1 (nr 1)).trans (e R 1 (by omega))).trans hu⟩
  · obtain ⟨u, hu⟩ := h.r2
    exact ⟨u, ((n R 2 (nr 2)).trans (e R 2 (by omega))).trans hu⟩
  · have := ownsRow_setCell_below ho (a := ⟨bm, 0, none⟩) (by dsimp only; omega) v'
    simpa using this
  · intro j hj
    simp at hj
    by_cases hlt : j < zs.length
    · have hh := h.bd j hlt
      simpa [List.getD, List.getElem?_append_left hlt] using hh
    · have : j = zs.length := by omega
      subst this
      simpa [List.getD] using hz
theorem fin_tcs {R bm : Nat} {wc w9 w10 : World} {o : Obj} {v v' : Value} (hb : Below wc.heap.size wc w9) (hgr : (w9.alloc o).grownBy w10 v.ownBlock) (hv : ∀ q, v.ownBlock = some q → R ≤ q) (hR : R ≤ bm) : Tcs (fun k => R ≤ k) wc (w10.setCell ⟨bm, 0, none⟩ v') := by
  have T := grown_tcs hgr
  have hs := T.size
  have hs2 := hb.size
  simp at hs
  refine ⟨T.os.trans hb.os, T.tape.trans hb.tape, T.output.trans hb.output, by simp; omega, fun k hk hn => ?_⟩
  rw [Below.heap_setCell _ _ _ k (by dsimp only; omega), T.block k (by simp; omega) (fun e => hn (hv k e)), Below.heap_alloc _ _ k (by omega)]
  exact hb.block k hk
theorem Im.put {R bm gb cb : Nat} {d b : Int} {zs : List Int} {W : World} (h : Im R bm d b (.slice (some ⟨gb, 0, none⟩) zs.length cb) zs W) (j : Nat) (z : Int) (hz : 0 ≤ z ∧ z ≤ 4294967295) (hj : j < zs.length) : Im R bm d b (.slice (some ⟨gb, 0, none⟩) zs.length cb) (zs.set j z) (W.setCell ⟨gb, j, none⟩ (.int .u32 z)) := by
  have l1 := h.le
  have l2 := h.lt
  have hb := own_block h.own gb rfl
  have e : ∀ q i, q ≤ bm → (W.setCell ⟨gb, j, none⟩ (.int .u32 z)).cell? ⟨q, i, none⟩ = W.cell? ⟨q, i, none⟩ := fun q i h1 => World.cell?_setCell_other _ _ _ _ (by intro e; injection e with e1; omega)
  refine ⟨l1, by simpa using l2, (e bm 0 (Nat.le_refl _)).trans h.c0, (e bm 1 (Nat.le_refl _)).trans h.c1, (e bm 2 (Nat.le_refl _)).trans h.c2, fun i => by simpa using h.fz i, ?_, ?_, ?_, fun i => by simpa using h.rf i, ?_, ?_⟩
  · obtain ⟨u, hu⟩ := h.r0
    exact ⟨u, (e R 0 (by omega)).trans hu⟩
  · obtain ⟨u, hu⟩ := h.r1
    exact ⟨u, (e R 1 (by omega)).trans hu⟩
  · obtain ⟨u, hu⟩ := h.r2
    exact ⟨u, (e R 2 (by omega)).trans hu⟩
  · have hs := h.own.stored j (.int .u32 z)
    rw [List.length_set, List.map_set]
    exact hs.1
  · intro i hi
    rw [List.length_set] at hi
    by_cases hij : i = j
    · subst hij
      simpa [List.getD, List.getElem?_set, hi] using hz
    · have hh := h.bd i hi
      have e2 : (zs.set j z).getD i 0 = zs.getD i 0 := by simp [List.getD, List.getElem?_set_ne (fun e : j = i => hij e.symm)]
      rw [e2]
      exact hh
theorem Cur.drew {g : Nat} {a : Option Addr} {len cap : Nat} {W : World} (hc : Cur g a len cap W) : Cur g a len cap W.drew := ⟨hc.lt, hc.s0, hc.s1, hc.s2, hc.fz, hc.by8⟩
set_option maxRecDepth 8000 in
set_option maxHeartbeats 2000000 in
theorem img_draw (g : Nat) (a : Option Addr) (len cap : Nat) (w : World) (hl : len ≤ 1048576) (hc : Cur g a len cap w) :
    Calls Try.prog 24 #[.pointer (some ⟨g, 0, none⟩)] w fun e w' => ∃ v, ∃ zs : List Int, ∃ d b : Int, e = .returned (.agg #[v, .int .i64 d, .int .i64 b]) ∧ w'.ownsRow w.heap.size 30 1 v zs.length (zs.map (Value.int .u32)) ∧ (1 ≤ zs.length ∧ zs.length ≤ 14) ∧ (∀ j, j < zs.length → 0 ≤ zs.getD j 0 ∧ zs.getD j 0 ≤ 4294967295) ∧ (0 ≤ d ∧ d ≤ 20 ∧ 0 ≤ b ∧ b ≤ 48) ∧ Cur g a len cap w' ∧ Tch g w w' := by
  obtain ⟨i1, hi1, hz10, hz11, hz12⟩ := info_parts Try.infu32
  have HC : Hid _ := hc.alloc (.cells #[.slice none 0 0, .int .i64 0, .int .i64 0] 25)
  have hgl := hc.lt
  have HB : Hid _ := hc.blk
  clear hc
  go_enter Try.func24, Try.ntmps24
  go_wp2_with fail
  refine (below_any g a len cap _ _ hl HC.out (by omega)).mono ?_
  rintro e w1 ⟨x1, rfl, hx1, hc1, ht1⟩
  have H1 : Hid _ := And.intro hc1 ht1
  clear hc1 ht1 HC
  go_wp2_with fail
  refine (below_any g a len cap _ _ hl H1.out.1 (by omega)).mono ?_
  rintro e w2 ⟨x2, rfl, hx2, hc2, ht2⟩
  have hsz2 : w.heap.size < w2.heap.size := by
    have h1 := H1.out.2.size
    have h2 := ht2.size
    simp at h1
    omega
  have T2 : Tch g (w.alloc (.cells #[.slice none 0 0, .int .i64 0, .int .i64 0] 25)) w2 := H1.out.2.trans ht2
  have r2 := fun o => T2.cell (k := w.heap.size) (o := o) (by simp) (by omega)
  have f2 := fun o => T2.frozen (k := w.heap.size) (o := o) (by simp) (by omega)
  have H2 : Hid _ := And.intro hc2 (And.intro T2 (And.intro r2 f2))
  clear hc2 ht2 T2 H1 r2 f2
  go_wp2_with fail
  have S0 : Hid (Im w.heap.size w2.heap.size (4 * x1) (16 * x2) (.slice none 0 0) [] (w2.alloc (.cells #[.slice none 0 0, .int .i64 (4 * x1), .int .i64 (16 * x2)] 25))) := by
    have hr := fun o => (World.cell?_alloc_past (w := w2) (.cells #[.slice none 0 0, .int .i64 (4 * x1), .int .i64 (16 * x2)] 25) w.heap.size o hsz2).trans (H2.out.2.2.1 o)
    have hf := fun o => (World.frozen?_of_block (a := ⟨w.heap.size, o, none⟩) (Below.heap_alloc w2 (.cells #[.slice none 0 0, .int .i64 (4 * x1), .int .i64 (16 * x2)] 25) w.heap.size hsz2)).trans (H2.out.2.2.2 o)
    refine ⟨hsz2, by simp, by simp, by simp, by simp, fun j => by simp, ⟨_, (hr 0).trans (by simp; rfl)⟩, ⟨_, (hr 1).trans (by simp; rfl)⟩, ⟨_, (hr 2).trans (by simp; rfl)⟩, fun j => (hf j).trans (by simp), World.ownsRow_nil _ _ _ _, fun j hj => by simp at hj⟩
  have T0 : Hid (Tch g w w2) := (((Tch.refl g w).alloc _).trans H2.out.2.1)
  refine (below_any g a len cap _ _ hl (H2.out.1.alloc _) (by omega)).mono ?_
  rintro e w3 ⟨x3, rfl, hx3, hc3, ht3⟩
  have S3 : Hid (Im w.heap.size w2.heap.size (4 * x1) (16 * x2) (.slice none 0 0) [] w3 ∧ Cur g a len cap w3 ∧ Tch g w w3) := ⟨S0.out.sm (Sm.of_tch ht3 hgl (Nat.le_refl _)), hc3, (T0.out.alloc _).trans ht3⟩
  clear S0 T0 H2 hc3 ht3
  go_wp2_with fail
  go_loopw [5] (fun i wr => ∃ k : Nat, (k : Int) ≤ 1 + x3 ∧ i = .int .i64 k ∧ ∃ v, ∃ zs : List Int, zs.length = k ∧ Im w.heap.size w2.heap.size (4 * x1) (16 * x2) v zs wr ∧ Cur g a len cap wr ∧ Tch g w wr) (fun i _ => (1 + x3).toNat - (intOf i).toNat)
  case atStart => exact ⟨0, by omega, rfl, _, [], rfl, S3.out.1, S3.out.2.1, S3.out.2.2⟩
  case round =>
    obtain ⟨k, hk, rfl, v, zs, hz, him, hcu, hto⟩ := hrel
    have HO : Hid _ := And.intro him (And.intro hcu hto)
    clear him hcu hto S3
    by_cases hlt : (k : Int) < 1 + x3
    · go_wp2_with fail
      refine (draw_any g a len cap _ hl HO.out.2.1).mono ?_
      rintro e w5 ⟨⟨p, q, r, s, t, rfl⟩, hc5, ht5⟩
      have h5 : w.heap.size ≤ w5.heap.size := Nat.le_trans HO.out.2.2.size ht5.size
      have X5 : Xs g a len cap w w5 (w5.alloc (.cells #[.int .i64 p, .int .i64 q, .int .i64 r, .int .i64 s, .int .i64 t] 64)) p q r s t := Xs.new hc5 (HO.out.2.2.trans ht5) 64 p q r s t
      have I5 : Im w.heap.size w2.heap.size (4 * x1) (16 * x2) v zs w5 := HO.out.1.sm (Sm.of_tch ht5 hgl (Nat.le_refl _))
      have H5 : Hid _ := And.intro I5 X5
      clear I5 X5 hc5 ht5 HO
      go_upto_region 8 with (go_at_call 53; refine (shape_any _ _).mono ?_; rintro e w' ⟨⟨s7, rfl, h70, h71⟩, rfl⟩)
      go_cut [6, 7, 33] from 23 to 73 (fun s6 s7 s33 wc => s6 = .pointer (some ⟨w5.heap.size, 0, none⟩) ∧ (∃ β : Bool, s33 = .bool β) ∧ ∃ p q r s t, Xs g a len cap w w5 wc p q r s t)
      case first =>
        by_cases h66 : s7 = 66
        · go_wp2
          go_meet
          case rel => exact ⟨rfl, ⟨_, rfl⟩, _, _, _, _, _, H5.out.2⟩
        · go_wp2
          go_meet
          case rel => exact ⟨rfl, ⟨_, rfl⟩, _, _, _, _, _, H5.out.2⟩
      case rest =>
      have I5 : Hid (Im w.heap.size w2.heap.size (4 * x1) (16 * x2) v zs w5) := H5.out.1
      clear H5
      obtain ⟨rfl, ⟨β, rfl⟩, p1, q1, r1, s1, t1, hx⟩ := hcut
      have HX : Hid (Xs g a len cap w w5 wc p1 q1 r1 s1 t1) := hx
      clear hx
      go_upto_if 33 with fail
      go_cut [6, 7] from 23 to 73 (fun s6 s7 wc => s6 = .pointer (some ⟨w5.heap.size, 0, none⟩) ∧ ∃ p q r s t, Xs g a len cap w w5 wc p q r s t)
      case first =>
        cases β with
        | false =>
          go_wp2
          go_meet
          case rel => exact ⟨rfl, _, _, _, _, _, HX.out⟩
        | true =>
          go_wp2_with fail
          refine (below_any g a len cap _ _ hl HX.out.cur (by omega)).mono ?_
          rintro e w6 ⟨y, rfl, hy, hc6, ht6⟩
          have X6 := HX.out.go hgl h5 hc6 ht6
          have e4 := X6.c4
          have ef := X6.fz
          have H6 : Hid _ := X6
          clear X6 hc6 ht6 HX
          go_wp2
          go_meet
          case rel => exact ⟨rfl, _, _, _, _, _, H6.out.set4 hgl h5 HB.out _⟩
      case rest =>
      clear HX
      obtain ⟨rfl, p2, q2, r2, s2, t2, hx⟩ := hcut
      rename_i WC1 WC
      have e0 := hx.c0
      have HX : Hid _ := hx
      clear hx
      go_upto_region 10 with fail
      go_cut [6, 46] from 23 to 73 (fun s6 s46 wc => s6 = .pointer (some ⟨w5.heap.size, 0, none⟩) ∧ (∃ β : Bool, s46 = .bool β) ∧ ∃ p q r s t, Xs g a len cap w w5 wc p q r s t)
      case first =>
        by_cases h66 : p2 = 10
        · go_wp2
          go_meet
          case rel => exact ⟨rfl, ⟨_, rfl⟩, _, _, _, _, _, HX.out⟩
        · go_wp2
          go_meet
          case rel => exact ⟨rfl, ⟨_, rfl⟩, _, _, _, _, _, HX.out⟩
      case rest =>
      clear HX e0
      obtain ⟨rfl, ⟨β, rfl⟩, p3, q3, r3, s3, t3, hx⟩ := hcut
      have HX : Hid _ := hx
      clear hx
      go_upto_if 46 with fail
      go_cut [6] from 23 to 73 (fun s6 wc => s6 = .pointer (some ⟨w5.heap.size, 0, none⟩) ∧ ∃ p q r s t, Xs g a len cap w w5 wc p q r s t)
      case first =>
        cases β with
        | false =>
          go_wp2
          go_meet
          case rel => exact ⟨rfl, _, _, _, _, _, HX.out⟩
        | true =>
          go_wp2_with fail
          refine (below_any g a len cap _ _ hl HX.out.cur (by omega)).mono ?_
          rintro e w6 ⟨y, rfl, hy, hc6, ht6⟩
          have X6 := HX.out.go hgl h5 hc6 ht6
          have e2 := X6.c2
          have ef := X6.fz
          have H6 : Hid _ := X6
          clear X6 hc6 ht6 HX
          go_wp2_with fail
          refine (below_any g a len cap _ _ hl (H6.out.set2 hgl h5 HB.out _).cur (by omega)).mono ?_
          rintro e w7 ⟨z, rfl, hzz, hc7, ht7⟩
          have X7 := (H6.out.set2 hgl h5 HB.out _).go hgl h5 hc7 ht7
          have e4 := X7.c4
          have ef7 := X7.fz
          have H7 : Hid _ := X7
          clear X7 hc7 ht7 H6 e2 ef
          go_wp2
          go_meet
          case rel => exact ⟨rfl, _, _, _, _, _, H7.out.set4 hgl h5 HB.out _⟩
      case rest =>
      clear HX
      obtain ⟨rfl, p4, q4, r4, s4, t4, hx⟩ := hcut
      have HX : Hid _ := hx
      clear hx
      go_wp2_with fail
      refine (once_any g a len cap _ _ hl HX.out.cur (by omega)).mono ?_
      rintro e w6 ⟨β, rfl, hc6, ht6⟩
      have X6 := HX.out.go hgl h5 hc6 ht6
      have H6 : Hid _ := X6
      clear X6 hc6 ht6 HX
      go_upto_if 57 with fail
      go_cut [6] from 23 to 73 (fun s6 wc => s6 = .pointer (some ⟨w5.heap.size, 0, none⟩) ∧ ∃ p q r s t, Xs g a len cap w w5 wc p q r s t)
      case first =>
        cases β with
        | false =>
          go_wp2
          go_meet
          case rel => exact ⟨rfl, _, _, _, _, _, H6.out⟩
        | true =>
          have X7 := H6.out.go hgl h5 (H6.out.cur.alloc (.cells #[.int .i64 1, .int .i64 2, .int .i64 10, .int .i64 3] 2)) ((Tch.refl g w6).alloc _)
          have H7 : Hid _ := X7
          clear X7
          have l6 := H6.out.lt
          clear H6
          go_wp2_with fail
          refine (below_any g a len cap _ _ hl H7.out.cur (by omega)).mono ?_
          rintro e w7 ⟨z, rfl, hzz, hc7, ht7⟩
          have X8 := H7.out.go hgl h5 hc7 ht7
          have ec := fun o => ht7.cell (k := w6.heap.size) (o := o) (by simp) (by omega)
          have e0 := X8.c0
          have e1 := X8.c1
          have e2 := X8.c2
          have e3 := X8.c3
          have e4 := X8.c4
          have ef := X8.fz
          have H8 : Hid _ := X8
          clear X8 hc7 ht7 H7
          have hz4 : z = 0 ∨ z = 1 ∨ z = 2 ∨ z = 3 := by omega
          rcases hz4 with rfl | rfl | rfl | rfl
          all_goals
            go_wp2
            go_meet
            case rel => exact ⟨rfl, _, _, _, _, _, ((((H8.out.set0 hgl h5 HB.out _).set1 hgl h5 HB.out _).set2 hgl h5 HB.out _).set3 hgl h5 HB.out _).set4 hgl h5 HB.out _⟩
      case rest =>
      clear H6
      obtain ⟨rfl, p5, q5, r5, s5, t5, hx⟩ := hcut
      have HX : Hid _ := hx
      clear hx
      go_wp2_with fail
      refine (once_any g a len cap _ _ hl HX.out.cur (by omega)).mono ?_
      rintro e w8 ⟨β2, rfl, hc8, ht8⟩
      have X8 := HX.out.go hgl h5 hc8 ht8
      have e0 := X8.c0
      have e1 := X8.c1
      have e2 := X8.c2
      have e3 := X8.c3
      have e4 := X8.c4
      have ef := X8.fz
      have H8 : Hid _ := X8
      clear X8 hc8 ht8 HX
      go_upto_if 65 with fail
      go_cut [6] from 23 to 73 (fun s6 wc => s6 = .pointer (some ⟨w5.heap.size, 0, none⟩) ∧ ∃ p q r s t, Xs g a len cap w w5 wc p q r s t)
      case first =>
        cases β2 with
        | false =>
          go_wp2
          go_meet
          case rel => exact ⟨rfl, _, _, _, _, _, H8.out⟩
        | true =>
          go_wp2
          go_meet
          case rel => exact ⟨rfl, _, _, _, _, _, ((((H8.out.set0 hgl h5 HB.out _).set1 hgl h5 HB.out _).set2 hgl h5 HB.out _).set3 hgl h5 HB.out _).set4 hgl h5 HB.out _⟩
      case rest =>
      clear H8 e0 e1 e2 e3 e4 ef
      obtain ⟨rfl, p6, q6, r6, s6, t6, hx⟩ := hcut
      rename_i WC
      have hsm := hx.sm
      have I6 : Im w.heap.size w2.heap.size (4 * x1) (16 * x2) v zs wc := I5.out.sm hsm
      have e0 := hx.c0
      have e1 := hx.c1
      have e2 := hx.c2
      have e3 := hx.c3
      have e4 := hx.c4
      have ef := hx.fz
      have m0 := I6.c0
      have mf := I6.fz
      have HX : Hid _ := And.intro hx I6.drew
      have hbm := I6.lt
      have h5c := hx.lt
      clear hx I6 hsm
      go_upto_region 17 with fail
      go_region_law (first
        | (refine step_append_lies _ rfl _ _ 23 rfl (w2.heap.size + 1) 30 i1 (.int .u32 0) 1 4 Try.underlying23 hi1 hz10 hz11 hz12 rfl (by decide) v zs.length _ rfl (World.ownsRow.alloc I9.own _) ⟨w9.heap.size, 0, none⟩ 1 1 [.int .u32 z] rfl rfl (cell_one_new _ _ _) (by intro u hu; simp at hu; subst hu; rfl) (by decide) (by unfold maxLen; omega) (by omega) (by have := I9.lt; simp; omega) _ rfl ?_; intro g5 k5 w10 hown5 hgrow5 hat5 hlt5; have I10 := (I9.alloc _).app hgrow5 hown5 ⟨hz0, hz1⟩; have n0 := (grown_tcs hgrow5).block w2.heap.size (by have := I9.lt; simp; omega) (fun e => by have := own_block I9.own _ e; omega); have m100 := (World.cell?_of_block (a := ⟨w2.heap.size, 0, none⟩) n0).trans ((I9.alloc _).c0); have mf10 := fun j => (World.frozen?_of_block (a := ⟨w2.heap.size, j, none⟩) n0).trans ((I9.alloc _).fz j); have T10 := fin_tcs (R := w.heap.size) (bm := w2.heap.size) (v' := .slice (some ⟨g5, 0, none⟩) (zs.length + 1) k5) hb9 hgrow5 (fun q e => by have := own_block I9.own _ e; omega) (Nat.le_of_lt hsz2); have H10 : Hid _ := And.intro I10 T10; clear I10 T10)
        | (go_simp; go_at_call 55; refine (enc_any _ _ _ _ _ _).mono ?_; rintro e w9 ⟨⟨z, rfl, hz0, hz1⟩, hb9⟩; have I9 := HX.out.2.below hb9; have m90 := I9.c0; have m9a := fun o => (I9.alloc o).c0; have mf9 := I9.fz; have hb99 := hb9.size; dsimp only))
      all_goals
        have T10 : Tcs (fun k => w.heap.size ≤ k) wc _ := ⟨H10.out.2.os, H10.out.2.tape, H10.out.2.output, H10.out.2.size, H10.out.2.block⟩
        have C10 := HX.out.1.cur.tcs T10 (by show ¬ w.heap.size ≤ g; omega) (fun b off h0 ha e => by have := HB.out b off h0 ha; have e' : w.heap.size ≤ b := e; omega)
        have U10 := HX.out.1.tch.new T10 (fun q hq => hq)
        have J10 : Hid _ := And.intro H10.out.1 (And.intro C10 U10)
        clear T10 C10 U10 H10 I9 m90 m9a mf9 hb9 hb99 hown5 hgrow5 hat5 hlt5 n0 m100 mf10
        go_wp2
        go_roundw
        case rel =>
          rw [hz] at J10
          exact ⟨k + 1, by omega, by go_num, _, zs ++ [z], by simp [hz], J10.out.1, J10.out.2.1, J10.out.2.2⟩
        case measure => simp [intOf]; omega
    · go_wp2_with fail
      refine (once_any g a len cap _ _ hl HO.out.2.1 (by omega)).mono ?_
      rintro e w6 ⟨β, rfl, hc6, ht6⟩
      have I6 : Im w.heap.size w2.heap.size (4 * x1) (16 * x2) v zs w6 := HO.out.1.sm (Sm.of_tch ht6 hgl (Nat.le_refl _))
      have T6 := HO.out.2.2.trans ht6
      obtain ⟨ao, co, rfl⟩ := own_slice I6.own
      have H6 : Hid _ := And.intro I6 (And.intro hc6 T6)
      have m0 := I6.c0
      have m1 := I6.c1
      have m2 := I6.c2
      have mf := I6.fz
      have hbm := I6.lt
      obtain ⟨z0, r0⟩ := I6.r0
      obtain ⟨z1, r1⟩ := I6.r1
      obtain ⟨z2, r2⟩ := I6.r2
      have rf := I6.rf
      have hkn : (zs.length : Int) = 1 + x3 := by omega
      clear I6 T6 hc6 ht6 HO
      cases β with
      | false =>
        go_wp2
        refine bodyPost_ret (v := .agg #[.slice ao k co, .int .i64 (4 * x1), .int .i64 (16 * x2)]) (by simp [results, Try.results24, go_sem, m0, m1, m2, r0, r1, r2]) rfl ?_
        refine ⟨_, zs, _, _, rfl, ?_, ?_, H6.out.1.bd, ?_, ?_, ?_⟩
        · have h1 := own_mono (ownsRow_setCell_below (ownsRow_setCell_below (ownsRow_setCell_below H6.out.1.own (a := ⟨w.heap.size, 0, none⟩) (by dsimp only; omega) (.slice ao k co)) (a := ⟨w.heap.size, 1, none⟩) (by dsimp only; omega) (.int .i64 (4 * x1))) (a := ⟨w.heap.size, 2, none⟩) (by dsimp only; omega) (.int .i64 (16 * x2))) (show w.heap.size ≤ w2.heap.size + 1 by omega)
          simpa [hz] using h1
        · omega
        · omega
        · exact ((H6.out.2.1.store (by omega) (fun b off h0 ha => by have := HB.out b off h0 ha; omega)).store (by omega) (fun b off h0 ha => by have := HB.out b off h0 ha; omega)).store (by omega) (fun b off h0 ha => by have := HB.out b off h0 ha; omega)
        · exact ((H6.out.2.2.store (Nat.le_refl _)).store (Nat.le_refl _)).store (Nat.le_refl _)
      | true =>
        have hkp : 0 < zs.length := by omega
        obtain ⟨gb, cb, hvb, hgb1, hgb2⟩ := H6.out.1.own.form hkp
        injection hvb with e1 e2 e3
        subst e1
        subst e3
        clear z0 r0 z1 r1 z2 r2 m1 m2 rf
        go_upto_region 19 with fail
        go_region_law (first
          | (go_simp; go_at_call 26; refine (below_any g a len cap _ _ hl H6.out.2.1.drew (by omega)).mono ?_; rintro e w7 ⟨y, rfl, hy, hc7, ht7⟩; obtain ⟨j, rfl⟩ : ∃ j : Nat, y = j := ⟨y.toNat, by omega⟩; have I7 := H6.out.1.drew.sm (Sm.of_tch ht7 hgl (Nat.le_refl _)); have m70 := I7.c0; have hjk : j < k := (by omega); have hcj := I7.own.cellAt j (by omega); have hfj := I7.own.frozenAt j; have hcj2 : w7.cell? ⟨gb, j, none⟩ = some (.int .u32 (zs.getD j 0)) := (by rw [hcj, List.getElem?_map, List.getElem?_eq_getElem (by omega)]; simp [List.getD, List.getElem?_eq_getElem (show j < zs.length by omega)]); dsimp only))
        all_goals
          have I8 := I7.put j 7 (by omega) (by omega)
          have C8 := hc7.store (k := gb) (o := j) (u := .int .u32 7) (by omega) (fun b off h0 ha => by have := HB.out b off h0 ha; omega)
          have U8 := (H6.out.2.2.drewN 1).trans ht7
          have V8 := U8.store (k := gb) (o := j) (u := .int .u32 7) (by omega)
          have H8 : Hid _ := And.intro I8 (And.intro C8 V8)
          clear I7 m70 hcj hfj hcj2 hc7 ht7 C8 U8 V8 H6 m0 mf
          generalize w7.setCell ⟨gb, j, none⟩ (.int .u32 7) = W8 at *
          have m0 := H8.out.1.c0
          have m1 := H8.out.1.c1
          have m2 := H8.out.1.c2
          have mf := H8.out.1.fz
          obtain ⟨z0, r0⟩ := H8.out.1.r0
          obtain ⟨z1, r1⟩ := H8.out.1.r1
          obtain ⟨z2, r2⟩ := H8.out.1.r2
          have rf := H8.out.1.rf
          go_wp2
          refine bodyPost_ret (v := .agg #[.slice (some ⟨gb, 0, none⟩) k co, .int .i64 (4 * x1), .int .i64 (16 * x2)]) (by simp [results, Try.results24, go_sem, m0, m1, m2, r0, r1, r2]) rfl ?_
          refine ⟨_, zs.set j 7, _, _, rfl, ?_, ?_, H8.out.1.bd, ?_, ?_, ?_⟩
          · have h1 := own_mono (ownsRow_setCell_below (ownsRow_setCell_below (ownsRow_setCell_below H8.out.1.own (a := ⟨w.heap.size, 0, none⟩) (by dsimp only; omega) (.slice (some ⟨gb, 0, none⟩) k co)) (a := ⟨w.heap.size, 1, none⟩) (by dsimp only; omega) (.int .i64 (4 * x1))) (a := ⟨w.heap.size, 2, none⟩) (by dsimp only; omega) (.int .i64 (16 * x2))) (show w.heap.size ≤ w2.heap.size + 1 by omega)
            simpa [hz] using h1
          · rw [List.length_set]; omega
          · omega
          · exact ((H8.out.2.1.store (by omega) (fun b off h0 ha => by have := HB.out b off h0 ha; omega)).store (by omega) (fun b off h0 ha => by have := HB.out b off h0 ha; omega)).store (by omega) (fun b off h0 ha => by have := HB.out b off h0 ha; omega)
          · exact ((H8.out.2.2.store (Nat.le_refl _)).store (Nat.le_refl _)).store (Nat.le_refl _)
end Go.Proofs.Ytabjcodpagjbjaa

namespace Go.Proofs.Ytabjcodpagjbjaa
open Go.RowKit
set_option linter.unusedVariables false
set_option linter.unusedSimpArgs false
/-- Bytes that can be read. -/
def B8 (w : World) (a : Option Addr) (len : Nat) : Prop :=
  0 < len → ∃ b off, a = some ⟨b, off, none⟩ ∧ b < w.heap.size ∧ ∀ j, j < len → ∃ z : Int, 0 ≤ z ∧ z ≤ 255 ∧ w.cell? ⟨b, off + j, none⟩ = some (.int .u8 z)
theorem B8.below {w w' : World} {a : Option Addr} {len : Nat} (h : B8 w a len) (hb : Below w.heap.size w w') : B8 w' a len := fun hl => by
  obtain ⟨b, off, ha, hlt, hc⟩ := h hl
  exact ⟨b, off, ha, by have := hb.size; omega, fun j hj => by obtain ⟨z, z0, z1, cz⟩ := hc j hj; exact ⟨z, z0, z1, (hb.cell (p := ⟨b, off + j, none⟩) hlt).trans cz⟩⟩
set_option maxHeartbeats 2000000 in
theorem new_some (b off len cap : Nat) (w : World) (hl : len ≤ 1048576) (hc : ∀ j, j < len → ∃ z : Int, 0 ≤ z ∧ z ≤ 255 ∧ w.cell? ⟨b, off + j, none⟩ = some (.int .u8 z)) :
    Calls Try.prog 23 #[.slice (some ⟨b, off, none⟩) len cap] w fun e w' => ∃ h : Int, e = .returned (.pointer (some ⟨w.heap.size, 0, none⟩)) ∧ w' = w.alloc (.cells #[.slice (some ⟨b, off, none⟩) len cap, .int .i64 0, .int .i64 h] 80) := by
  have HC : Hid _ := hc
  clear hc
  go_enter Try.func23, Try.ntmps23
  go_wp2
  go_loop [3, 4] (fun hv i => ∃ k : Nat, k ≤ len ∧ i = .int .i64 k ∧ ∃ h : Int, hv = .int .i64 h) (fun _ i => len - (intOf i).toNat)
  case atStart => exact ⟨0, Nat.zero_le _, rfl, _, rfl⟩
  case round =>
    obtain ⟨k, hk, rfl, h, rfl⟩ := hrel
    by_cases hlt : k < len
    · obtain ⟨z, z0, z1, cz⟩ := HC.out k hlt
      go_wp2
      go_round
      case rel => exact ⟨k + 1, by omega, by go_num, _, rfl⟩
      case measure => simp [intOf]; omega
    · go_wp2
      go_ret
      first | exact ⟨_, rfl, rfl⟩ | exact ⟨rfl, _, rfl⟩
set_option maxHeartbeats 1000000 in
theorem new_none (a : Option Addr) (cap : Nat) (w : World) :
    Calls Try.prog 23 #[.slice a 0 cap] w fun e w' => ∃ h : Int, e = .returned (.pointer (some ⟨w.heap.size, 0, none⟩)) ∧ w' = w.alloc (.cells #[.slice a 0 cap, .int .i64 0, .int .i64 h] 80) := by
  go_enter Try.func23, Try.ntmps23
  go_wp2
  refine wp_loop_rounds 1 ?_
  rw [rounds_succ]
  go_wp2
  go_ret
  first | exact ⟨_, rfl, rfl⟩ | exact ⟨rfl, _, rfl⟩
theorem cur_new (a : Option Addr) (len cap : Nat) (h : Int) (w : World) (hb : B8 w a len) : Cur w.heap.size a len cap (w.alloc (.cells #[.slice a len cap, .int .i64 0, .int .i64 h] 80)) := by
  refine ⟨by simp, by simp, ⟨0, Nat.zero_le _, by simp⟩, ⟨h, by simp⟩, fun j => by simp, fun hl => ?_⟩
  obtain ⟨b, off, ha, hlt, hc⟩ := hb hl
  exact ⟨b, off, ha, by simp; omega, by omega, fun j hj => by obtain ⟨z, z0, z1, cz⟩ := hc j hj; exact ⟨z, z0, z1, (World.cell?_alloc_past _ b _ hlt).trans cz⟩⟩
theorem new_any (a : Option Addr) (len cap : Nat) (w : World) (hl : len ≤ 1048576) (hb : B8 w a len) :
    Calls Try.prog 23 #[.slice a len cap] w fun e w' => e = .returned (.pointer (some ⟨w.heap.size, 0, none⟩)) ∧ Cur w.heap.size a len cap w' ∧ Below w.heap.size w w' ∧ w'.heap.size = w.heap.size + 1 := by
  by_cases h0 : len = 0
  · subst h0
    refine (new_none a cap w).mono ?_
    rintro e w' ⟨h, rfl, rfl⟩
    exact ⟨rfl, cur_new a 0 cap h w hb, (Below.refl _ _).alloc (Nat.le_refl _) _, by simp⟩
  · obtain ⟨b, off, rfl, hlt, hc⟩ := hb (by omega)
    refine (new_some b off len cap w hl hc).mono ?_
    rintro e w' ⟨h, rfl, rfl⟩
    exact ⟨rfl, cur_new _ len cap h w hb, (Below.refl _ _).alloc (Nat.le_refl _) _, by simp⟩
end Go.Proofs.Ytabjcodpagjbjaa
