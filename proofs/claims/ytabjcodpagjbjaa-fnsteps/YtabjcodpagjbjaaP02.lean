import Derived.Test.YtabjcodpagjbjaaP00
import Derived.Test.YtabjcodpagjbjaaP01
import Derived.Deep.RegionWith
import Derived.Deep.RegionHeld3
import Derived.OwnWalk
import Derived.Laws.OwnMore
import Derived.Laws.AppendOwnNone
namespace Go.Proofs.Ytabjcodpagjbjaa
open Go.RowKit
set_option linter.unusedVariables false
set_option linter.unusedSimpArgs false

/-- A machine: what its lists and numbers hold. -/
structure Mc where
  regs : List Int
  pc : Int
  data : List Int
  stack : List Int
  inn : List Int
  out : List Int
  low : Int
  st : Int
def zeroM : Mc := ⟨[], 0, [], [], [], [], 0, 0⟩
def regs0 : List Int := (List.replicate 32 0).set 2 1073741824
def bootM (n : Nat) (d b : Int) (zs : List Int) : Mc := if vimg n d b && okIn zs then ⟨regs0, 4096, List.replicate d.toNat 0, List.replicate b.toNat 0, zs, [], 1073741824, 0⟩ else zeroM
def obk : Value → List Nat
  | .slice (some a) _ _ => [a.block]
  | _ => []
/-- A slice is no longer than its capacity. -/
def capOk : Value → Prop
  | .slice _ n c => n ≤ c
  | _ => True
theorem own_cap {W : World} {B e n : Nat} {v : Value} {xs : List Value} (h : W.ownsRow B e 1 v n xs) : capOk v := by
  rcases h.2 with ⟨rfl, h0⟩ | ⟨g, cap, cur, rfl, hbg, hg, hnc, hcm, hcs, htake⟩
  · exact Nat.le_refl _
  · exact hnc
/-- A machine's value in memory, in blocks of its own from B on. -/
def CpuAt (w : World) (B : Nat) (v : Value) (c : Mc) : Prop :=
  ∃ r d s i o, v = .agg #[r, .int .u32 c.pc, d, s, i, o, .int .u32 c.low, .int .i64 c.st] ∧ Lis .u32 w r c.regs ∧ Lis .u8 w d c.data ∧ Lis .u8 w s c.stack ∧ Lis .i64 w i c.inn ∧
    w.ownsRow B 2 1 o c.out.length (c.out.map (Value.int .i64)) ∧ (blk r ++ blk d ++ blk s ++ blk i ++ obk o).Nodup ∧ (∀ g ∈ blk r ++ blk d ++ blk s ++ blk i ++ obk o, B ≤ g) ∧ capOk d ∧ capOk s ∧ capOk i

theorem lis_made {k : IntKind} {e : TypeId} {W : World} {g n : Nat} (h : W.heap[g]? = some (.cells (madeCells #[.int k 0] n) e)) : Lis k W (.slice (some ⟨g, 0, none⟩) n n) (List.replicate n 0) := by
  refine ⟨_, n, by simp, fun _ => ⟨g, 0, rfl, (Array.getElem?_eq_some_iff.mp h).1, fun j hj => ?_, fun j => ?_⟩⟩
  · simp only [List.length_replicate] at hj
    simp [World.cell?, h, madeCells, hj, Nat.mod_one]
  · simp [World.frozen?, h]

theorem len_cons {n : Nat} {l : List Value} (h : l.length = n + 1) : ∃ x xs, l = x :: xs ∧ xs.length = n := by
  cases l with
  | nil => simp at h
  | cons x xs => exact ⟨x, xs, rfl, by simpa using h⟩
theorem arr29 (a : Array Value) (h : a.size = 29) : ∃ t0 t1 t2 t3 t4 t5 t6 t7 t8 t9 t10 t11 t12 t13 t14 t15 t16 t17 t18 t19 t20 t21 t22 t23 t24 t25 t26 t27 t28, a = #[t0, t1, t2, t3, t4, t5, t6, t7, t8, t9, t10, t11, t12, t13, t14, t15, t16, t17, t18, t19, t20, t21, t22, t23, t24, t25, t26, t27, t28] := by
  obtain ⟨l⟩ := a
  simp only [List.size_toArray] at h
  obtain ⟨t0, l0, rfl, h0⟩ := len_cons h
  obtain ⟨t1, l1, rfl, h1⟩ := len_cons h0
  obtain ⟨t2, l2, rfl, h2⟩ := len_cons h1
  obtain ⟨t3, l3, rfl, h3⟩ := len_cons h2
  obtain ⟨t4, l4, rfl, h4⟩ := len_cons h3
  obtain ⟨t5, l5, rfl, h5⟩ := len_cons h4
  obtain ⟨t6, l6, rfl, h6⟩ := len_cons h5
  obtain ⟨t7, l7, rfl, h7⟩ := len_cons h6
  obtain ⟨t8, l8, rfl, h8⟩ := len_cons h7
  obtain ⟨t9, l9, rfl, h9⟩ := len_cons h8
  obtain ⟨t10, l10, rfl, h10⟩ := len_cons h9
  obtain ⟨t11, l11, rfl, h11⟩ := len_cons h10
  obtain ⟨t12, l12, rfl, h12⟩ := len_cons h11
  obtain ⟨t13, l13, rfl, h13⟩ := len_cons h12
  obtain ⟨t14, l14, rfl, h14⟩ := len_cons h13
  obtain ⟨t15, l15, rfl, h15⟩ := len_cons h14
  obtain ⟨t16, l16, rfl, h16⟩ := len_cons h15
  obtain ⟨t17, l17, rfl, h17⟩ := len_cons h16
  obtain ⟨t18, l18, rfl, h18⟩ := len_cons h17
  obtain ⟨t19, l19, rfl, h19⟩ := len_cons h18
  obtain ⟨t20, l20, rfl, h20⟩ := len_cons h19
  obtain ⟨t21, l21, rfl, h21⟩ := len_cons h20
  obtain ⟨t22, l22, rfl, h22⟩ := len_cons h21
  obtain ⟨t23, l23, rfl, h23⟩ := len_cons h22
  obtain ⟨t24, l24, rfl, h24⟩ := len_cons h23
  obtain ⟨t25, l25, rfl, h25⟩ := len_cons h24
  obtain ⟨t26, l26, rfl, h26⟩ := len_cons h25
  obtain ⟨t27, l27, rfl, h27⟩ := len_cons h26
  obtain ⟨t28, l28, rfl, h28⟩ := len_cons h27
  obtain rfl : l28 = [] := List.eq_nil_of_length_eq_zero h28
  exact ⟨t0, t1, t2, t3, t4, t5, t6, t7, t8, t9, t10, t11, t12, t13, t14, t15, t16, t17, t18, t19, t20, t21, t22, t23, t24, t25, t26, t27, t28, rfl⟩
theorem own_below {W W' : World} {B e size n : Nat} {v : Value} {xs : List Value} (h : W.ownsRow B e size v n xs) (hb : Below W.heap.size W W') : W'.ownsRow B e size v n xs := by
  refine ⟨h.1, h.2.imp id ?_⟩
  rintro ⟨g, cap, cur, h1, h2, h3, h4⟩
  exact ⟨g, cap, cur, h1, h2, (hb.block g (Array.getElem?_eq_some_iff.mp h3).1).trans h3, h4⟩
theorem own_mono {W : World} {B B' e size n : Nat} {v : Value} {xs : List Value} (h : W.ownsRow B e size v n xs) (hb : B' ≤ B) : W.ownsRow B' e size v n xs := by
  refine ⟨h.1, h.2.imp id ?_⟩
  rintro ⟨g, cap, cur, h1, h2, h4⟩
  exact ⟨g, cap, cur, h1, Nat.le_trans hb h2, h4⟩
theorem own_type {W : World} {B e size n g t : Nat} {v : Value} {xs : List Value} {cur : Array Value} (h : W.ownsRow B e size v n xs) (hg : g ∈ obk v) (hb : W.heap[g]? = some (.cells cur t)) : t = e := by
  rcases h.2 with ⟨rfl, _⟩ | ⟨g', cap, cur', rfl, _, h3, _⟩
  · simp [obk] at hg
  · simp only [obk, List.mem_singleton] at hg
    subst hg
    rw [h3] at hb
    simp at hb
    exact hb.2.symm
theorem own_obk {W : World} {B e size n : Nat} {v : Value} {xs : List Value} (h : W.ownsRow B e size v n xs) : (obk v).Nodup ∧ ∀ g ∈ obk v, B ≤ g ∧ g < W.heap.size := by
  rcases h.2 with ⟨rfl, _⟩ | ⟨g', cap, cur', rfl, h2, h3, _⟩
  · simp [obk]
  · refine ⟨by simp [obk], fun g hg => ?_⟩
    simp only [obk, List.mem_singleton] at hg
    subst hg
    exact ⟨h2, (Array.getElem?_eq_some_iff.mp h3).1⟩
theorem blk_obk {v : Value} {g : Nat} (h : g ∈ blk v) : g ∈ obk v := by
  unfold blk at h
  split at h
  · simpa [obk] using h
  · simp at h
theorem Row.set {k : IntKind} {W : World} {g off i : Nat} {zs : List Int} {z : Int} (h : Row k W g off zs) (hi : i < zs.length) : Row k (W.setCell ⟨g, off + i, none⟩ (.int k z)) g off (zs.set i z) := by
  refine ⟨by simpa using h.lt, fun j hj => ?_, fun j => ?_⟩
  · simp only [List.length_set] at hj
    by_cases hji : i = j
    · subst hji
      rw [World.cell?_setCell_same _ _ _ (h.cell i hi)]
      simp [List.getD, hi]
    · rw [World.cell?_setCell_other _ _ _ _ (by intro e; simp only [Addr.mk.injEq] at e; omega), h.cell j hj]
      simp [List.getD, List.getElem?_set_ne hji]
  · simpa using h.froz j

theorem boot_close {w W : World} {g1 g2 g3 g5 q B : Nat} {n2 n3 : Nat} {vi : Value} {zs : List Int} (x0 x1 x2 x3 x4 x5 x6 x7 y0 y1 y2 y3 y4 y5 y6 y7 : Value)
    (L1 : Lis .u32 W (.slice (some ⟨g1, 0, none⟩) 32 32) (List.replicate 32 0)) (L2 : Lis .u8 W (.slice (some ⟨g2, 0, none⟩) n2 n2) (List.replicate n2 0)) (L3 : Lis .u8 W (.slice (some ⟨g3, 0, none⟩) n3 n3) (List.replicate n3 0))
    (b4 : W.ownsRow B 2 1 vi zs.length (zs.map (Value.int .i64))) (hnd : ([g1, g2, g3] ++ obk vi).Nodup) (hbd : ∀ g ∈ [g1, g2, g3] ++ obk vi, B ≤ g ∧ g < W.heap.size)
    (m1 : ¬ g1 = g5) (m2 : ¬ g2 = g5) (m3 : ¬ g3 = g5) (m4 : g5 ∉ obk vi) (hq : q < B) (hwq : w.heap.size ≤ q) (h5 : B ≤ g5) (BW : Below w.heap.size w W) :
    CpuAt (((((((((((((((((W.setCell ⟨g5, 0, none⟩ x0).setCell ⟨g5, 1, none⟩ x1).setCell ⟨g5, 2, none⟩ x2).setCell ⟨g5, 3, none⟩ x3).setCell ⟨g5, 4, none⟩ x4).setCell ⟨g5, 5, none⟩ x5).setCell ⟨g5, 6, none⟩ x6).setCell ⟨g5, 7, none⟩ x7).setCell ⟨g1, 2, none⟩ (.int .u32 1073741824)).setCell ⟨q, 0, none⟩ y0).setCell ⟨q, 1, none⟩ y1).setCell ⟨q, 2, none⟩ y2).setCell ⟨q, 3, none⟩ y3).setCell ⟨q, 4, none⟩ y4).setCell ⟨q, 5, none⟩ y5).setCell ⟨q, 6, none⟩ y6).setCell ⟨q, 7, none⟩ y7) w.heap.size (.agg #[.slice (some ⟨g1, 0, none⟩) 32 32, .int .u32 4096, .slice (some ⟨g2, 0, none⟩) n2 n2, .slice (some ⟨g3, 0, none⟩) n3 n3, vi, .slice none 0 0, .int .u32 1073741824, .int .i64 0]) ⟨regs0, 4096, List.replicate n2 0, List.replicate n3 0, zs, [], 1073741824, 0⟩ ∧ Below w.heap.size w (((((((((((((((((W.setCell ⟨g5, 0, none⟩ x0).setCell ⟨g5, 1, none⟩ x1).setCell ⟨g5, 2, none⟩ x2).setCell ⟨g5, 3, none⟩ x3).setCell ⟨g5, 4, none⟩ x4).setCell ⟨g5, 5, none⟩ x5).setCell ⟨g5, 6, none⟩ x6).setCell ⟨g5, 7, none⟩ x7).setCell ⟨g1, 2, none⟩ (.int .u32 1073741824)).setCell ⟨q, 0, none⟩ y0).setCell ⟨q, 1, none⟩ y1).setCell ⟨q, 2, none⟩ y2).setCell ⟨q, 3, none⟩ y3).setCell ⟨q, 4, none⟩ y4).setCell ⟨q, 5, none⟩ y5).setCell ⟨q, 6, none⟩ y6).setCell ⟨q, 7, none⟩ y7) := by
  have hr0 : Row .u32 W g1 0 (List.replicate 32 0) := by
    obtain ⟨ar, cr, er, hr⟩ := L1
    obtain ⟨g, off, e, hR⟩ := hr (by simp)
    simp at er
    obtain ⟨rfl, _⟩ := er
    simp at e
    obtain ⟨rfl, rfl⟩ := e
    exact hR
  have TA := (Tcs.refl (fun k => k = g5) W).set8 g5 rfl x0 x1 x2 x3 x4 x5 x6 x7
  have hr8 := (hr0.keep TA.size (TA.block g1 hr0.lt m1)).set (i := 2) (z := 1073741824) (by simp)
  have TB := fun (W9 : World) => (Tcs.refl (fun k => k = q) W9).set8 q rfl y0 y1 y2 y3 y4 y5 y6 y7
  have TC := (((Tcs.refl (fun k => k = g5 ∨ k = g1 ∨ k = q) W).set8 g5 (.inl rfl) x0 x1 x2 x3 x4 x5 x6 x7).setCell (p := ⟨g1, 2, none⟩) (.inr (.inl rfl)) (.int .u32 1073741824)).set8 q (.inr (.inr rfl)) y0 y1 y2 y3 y4 y5 y6 y7
  have o1 := hbd g1 (by simp)
  have o2 := hbd g2 (by simp)
  have o3 := hbd g3 (by simp)
  have hn := hnd
  simp only [List.cons_append, List.nil_append, List.nodup_cons, List.mem_cons, not_or] at hn
  obtain ⟨⟨e12, e13, e14⟩, ⟨e23, e24⟩, e34, hno⟩ := hn
  have ob : ∀ g ∈ obk vi, B ≤ g ∧ g < W.heap.size := fun g hg => hbd g (by simp [hg])
  refine ⟨⟨_, _, _, _, _, rfl, (Lis.of_row (cap := 32) hr8).tcs (TB _) ?_, L2.tcs TC ?_, L3.tcs TC ?_, (Lis.of_own b4).1.tcs TC ?_, World.ownsRow_nil _ _ _ _, ?_, ?_, Nat.le_refl _, Nat.le_refl _, own_cap b4⟩, TC.below BW BW.size ?_⟩
  · intro g hg
    have := blk_obk hg
    simp [obk] at this
    omega
  · intro g hg
    have := blk_obk hg
    simp [obk] at this
    omega
  · intro g hg
    have := blk_obk hg
    simp [obk] at this
    omega
  · intro g hg
    have h1 := blk_obk hg
    have h2 := ob g h1
    rintro (rfl | rfl | rfl)
    · exact m4 h1
    · exact e14 h1
    · omega
  · rw [show obk (.slice none 0 0) = [] from rfl, List.append_nil]
    have hs : ∀ (a : Option Addr) (n c g : Nat), a = some ⟨g, 0, none⟩ → ∀ x ∈ blk (.slice a n c), x = g := by
      rintro a n c g rfl x hx
      have := blk_obk hx
      simpa [obk] using this
    have k1 := hs _ 32 32 g1 rfl
    have k2 := hs _ n2 n2 g2 rfl
    have k3 := hs _ n3 n3 g3 rfl
    have hnb : ∀ v : Value, (blk v).Nodup := by
      intro v
      unfold blk
      split <;> simp
    simp only [List.nodup_append, List.mem_append]
    refine ⟨⟨⟨hnb _, hnb _, fun x hx y hy => ?_⟩, hnb _, fun x hx y hy => ?_⟩, hnb _, fun x hx y hy => ?_⟩
    · rw [k1 x hx, k2 y hy]; exact e12
    · rw [k3 y hy]
      rcases hx with hx | hx
      · rw [k1 x hx]; exact e13
      · rw [k2 x hx]; exact e23
    · have hy' := blk_obk hy
      rintro rfl
      rcases hx with (hx | hx) | hx
      · rw [k1 x hx] at hy'; exact e14 hy'
      · rw [k2 x hx] at hy'; exact e24 hy'
      · rw [k3 x hx] at hy'; exact e34 hy'
  · intro g hg
    have hwB : w.heap.size ≤ B := by omega
    rw [show obk (.slice none 0 0) = [] from rfl, List.append_nil] at hg
    simp only [List.mem_append] at hg
    rcases hg with ((hg | hg) | hg) | hg
    · have := blk_obk hg
      simp [obk] at this
      omega
    · have := blk_obk hg
      simp [obk] at this
      omega
    · have := blk_obk hg
      simp [obk] at this
      omega
    · have := ob g (blk_obk hg)
      omega
  · rintro k (rfl | rfl | rfl) <;> omega
theorem lt11 {i : Nat} (h : i < 11) : i = 0 ∨ i = 1 ∨ i = 2 ∨ i = 3 ∨ i = 4 ∨ i = 5 ∨ i = 6 ∨ i = 7 ∨ i = 8 ∨ i = 9 ∨ i = 10 := by omega
theorem blocks_keep {W W' : World} {g : Nat} {o : Obj} (h : W.heap[g]? = some o) (hb : Below W.heap.size W W') : W'.heap[g]? = some o := (hb.block g (Array.getElem?_eq_some_iff.mp h).1).trans h

set_option maxRecDepth 8000 in
set_option maxHeartbeats 8000000 in
theorem boot_i_yes (a : Option Addr) (len cap : Nat) (d bd : Int) (v : Value) (zs : List Int) (w : World) (hl : len ≤ 1048576) (hz : zs.length ≤ 2097152) (h : Lis .i64 w v zs) (hv : vimg len d bd = true) (ho : okIn zs = true) :
    Calls Try.prog 12 #[.agg #[.slice a len cap, .int .i64 d, .int .i64 bd], v] w fun e w' => ∃ u, e = .returned u ∧ CpuAt w' w.heap.size u (bootM len d bd zs) ∧ Below w.heap.size w w' := by
  obtain ⟨i0, hi, hz0, hz1, hz2⟩ := info_parts Try.infu8
  obtain ⟨i1, hi1, hz3, hz4, hz5⟩ := info_parts Try.infu32
  have hvv : 0 ≤ d ∧ d ≤ 65536 ∧ 0 ≤ bd ∧ bd ≤ 1000000 := by
    have := hv
    unfold vimg at this
    simp only [decide_eq_true_eq] at this
    omega
  have hm1 : ∀ W : World, (Instr.makeSlice 23 (.int .i64 32) (.int .i64 32)).run Try.prog W = .ok (.slice (some ⟨W.heap.size, 0, none⟩) 32 32) (W.alloc (.cells (madeCells #[.int .u32 0] 32) 30)) := fun W => by
    have := run_make (P := Try.prog) W 23 30 i1 (.int .u32 0) Try.underlying23 hi1 hz3 .i64 .i64 32 32 (by omega) (by omega) (by rw [hz5]; omega) (by omega)
    rw [hz4] at this
    exact this
  have hm2 : ∀ W : World, (Instr.makeSlice 22 (.int .i64 d) (.int .i64 d)).run Try.prog W = .ok (.slice (some ⟨W.heap.size, 0, none⟩) d.toNat d.toNat) (W.alloc (.cells (madeCells #[.int .u8 0] d.toNat) 5)) := fun W => by
    have := run_make (P := Try.prog) W 22 5 i0 (.int .u8 0) Try.underlying22 hi hz0 .i64 .i64 d d (by omega) (by omega) (by rw [hz2]; omega) (by omega)
    rw [hz1, Nat.mul_one] at this
    exact this
  have hm3 : ∀ W : World, (Instr.makeSlice 22 (.int .i64 bd) (.int .i64 bd)).run Try.prog W = .ok (.slice (some ⟨W.heap.size, 0, none⟩) bd.toNat bd.toNat) (W.alloc (.cells (madeCells #[.int .u8 0] bd.toNat) 5)) := fun W => by
    have := run_make (P := Try.prog) W 22 5 i0 (.int .u8 0) Try.underlying22 hi hz0 .i64 .i64 bd bd (by omega) (by omega) (by rw [hz2]; omega) (by omega)
    rw [hz1, Nat.mul_one] at this
    exact this
  clear hi hz0 hz1 hz2 hi1 hz3 hz4 hz5
  have HL : Hid _ := h
  clear h
  have hb0 : Below w.heap.size w ((w.alloc (.cells #[.slice a len cap, .int .i64 d, .int .i64 bd] 25)).alloc (.cells #[.slice none 0 0, .int .u32 0, .slice none 0 0, .slice none 0 0, .slice none 0 0, .slice none 0 0, .int .u32 0, .int .i64 0] 32)) := ((Below.refl _ _).alloc (Nat.le_refl _) _).alloc (by simp) _
  go_enter Try.func12, Try.ntmps12
  go_wp2_with fail
  refine (vi_any a len cap d bd _ hl).mono ?_
  rintro e w1 ⟨rfl, hb1⟩
  have k1 : w1.cell? ⟨w.heap.size, 1, none⟩ = some (.int .i64 d) ∧ w1.cell? ⟨w.heap.size, 2, none⟩ = some (.int .i64 bd) := by
    constructor <;> (rw [hb1.cell (by simp; omega)]; simp)
  have B1 : Below w.heap.size w w1 := hb0.trans (hb1.mono (by simp; omega))
  simp only [World.size_alloc] at hb1
  have s1 : w.heap.size + 2 ≤ w1.heap.size := by have := hb1.size; simp at this; omega
  rw [hv]
  go_wp2_with fail
  refine (input_i v zs _ hz (Lis.below HL.out B1)).mono ?_
  rintro e w2 ⟨rfl, hb2⟩
  have k2 : w2.cell? ⟨w.heap.size, 1, none⟩ = some (.int .i64 d) ∧ w2.cell? ⟨w.heap.size, 2, none⟩ = some (.int .i64 bd) := by
    constructor
    · rw [hb2.cell (by simp; omega)]; exact k1.1
    · rw [hb2.cell (by simp; omega)]; exact k1.2
  have B2 : Below w.heap.size w w2 := B1.trans (hb2.mono (by omega))
  have R2 : Below (w.heap.size + 2) ((w.alloc (.cells #[.slice a len cap, .int .i64 d, .int .i64 bd] 25)).alloc (.cells #[.slice none 0 0, .int .u32 0, .slice none 0 0, .slice none 0 0, .slice none 0 0, .slice none 0 0, .int .u32 0, .int .i64 0] 32)) w2 := hb1.trans (hb2.mono (by omega))
  have s2 : w.heap.size + 2 ≤ w2.heap.size := by have := hb2.size; omega
  rw [ho]
  clear hb2 B1 s1 k1 hb1 hb0
  have HB : Hid (∀ W, Below w2.heap.size w2 W → Calls Try.prog 42 #[v] W fun e w' => ∃ u, e = .returned u ∧ w'.ownsRow W.heap.size 2 1 u zs.length (zs.map (Value.int .i64)) ∧ Below W.heap.size W w') := by
    intro W hW
    exact clone_i64 v zs W hz (Lis.below (Lis.below HL.out B2) hW)
  go_wp2_with fail
  refine wp_region_grow (by kernel_rfl) (n := 11) (d := fun i => [15, 16, 17, 18, 19, 20, 21, 22, 23, 24, 5].getD i 0) ?G
    (fun i x W => match i with
      | 0 => ∃ g, x = .slice (some ⟨g, 0, none⟩) 32 32 ∧ W.heap[g]? = some (.cells (madeCells #[.int .u32 0] 32) 30)
      | 1 => x = .pointer (some ⟨w.heap.size, 1, none⟩)
      | 2 => x = .int .i64 d
      | 3 => ∃ g, x = .slice (some ⟨g, 0, none⟩) d.toNat d.toNat ∧ W.heap[g]? = some (.cells (madeCells #[.int .u8 0] d.toNat) 5)
      | 4 => x = .pointer (some ⟨w.heap.size, 2, none⟩)
      | 5 => x = .int .i64 bd
      | 6 => ∃ g, x = .slice (some ⟨g, 0, none⟩) bd.toNat bd.toNat ∧ W.heap[g]? = some (.cells (madeCells #[.int .u8 0] bd.toNat) 5)
      | 7 => x = v
      | 8 => W.ownsRow w2.heap.size 2 1 x zs.length (zs.map (Value.int .i64))
      | 9 => ∃ g1 g2 g3 i, x = .agg #[.slice (some ⟨g1, 0, none⟩) 32 32, .int .u32 4096, .slice (some ⟨g2, 0, none⟩) d.toNat d.toNat, .slice (some ⟨g3, 0, none⟩) bd.toNat bd.toNat, i, .slice none 0 0, .int .u32 1073741824, .int .i64 0] ∧
          W.heap[g1]? = some (.cells (madeCells #[.int .u32 0] 32) 30) ∧ W.heap[g2]? = some (.cells (madeCells #[.int .u8 0] d.toNat) 5) ∧ W.heap[g3]? = some (.cells (madeCells #[.int .u8 0] bd.toNat) 5) ∧ W.ownsRow w2.heap.size 2 1 i zs.length (zs.map (Value.int .i64)) ∧
          ([g1, g2, g3] ++ obk i).Nodup ∧ ∀ g ∈ [g1, g2, g3] ++ obk i, w2.heap.size ≤ g ∧ g < W.heap.size
      | _ => ∃ g, x = .pointer (some ⟨g, 0, none⟩) ∧ w2.heap.size ≤ g ∧ W.heap[g]? = some (.cells #[.slice none 0 0, .int .u32 0, .slice none 0 0, .slice none 0 0, .slice none 0 0, .slice none 0 0, .int .u32 0, .int .i64 0] 32))
    (fun i x => match i with
      | 0 => obk x
      | 3 => obk x
      | 6 => obk x
      | 8 => obk x
      | _ => []) ?stab ?hd ?step ?fin
  case G =>
    refine ⟨rfl, ?_, ?_, ?_⟩
    · intro i hi
      rcases lt11 hi with rfl | rfl | rfl | rfl | rfl | rfl | rfl | rfl | rfl | rfl | rfl <;> exact ⟨_, rfl, rfl, rfl, by simp [Region.binds]⟩
    · intro i j hi hj
      rcases lt11 hi with rfl | rfl | rfl | rfl | rfl | rfl | rfl | rfl | rfl | rfl | rfl <;> rcases lt11 hj with rfl | rfl | rfl | rfl | rfl | rfl | rfl | rfl | rfl | rfl | rfl <;> simp
    · refine ⟨_, rfl, rfl, ?_, by simp⟩
      intro i hi
      rcases lt11 hi with rfl | rfl | rfl | rfl | rfl | rfl | rfl | rfl | rfl | rfl | rfl <;> simp [Region.binds]
  case stab =>
    intro i x W W' hR hO hB
    by_cases hi : i < 11
    · rcases lt11 hi with rfl | rfl | rfl | rfl | rfl | rfl | rfl | rfl | rfl | rfl | rfl
      · obtain ⟨g, rfl, hg⟩ := hR
        exact ⟨g, rfl, blocks_keep hg hB⟩
      · exact hR
      · exact hR
      · obtain ⟨g, rfl, hg⟩ := hR
        exact ⟨g, rfl, blocks_keep hg hB⟩
      · exact hR
      · exact hR
      · obtain ⟨g, rfl, hg⟩ := hR
        exact ⟨g, rfl, blocks_keep hg hB⟩
      · exact hR
      · exact own_below hR hB
      · obtain ⟨g1, g2, g3, i, rfl, h1, h2, h3, h4, h5, h6⟩ := hR
        exact ⟨g1, g2, g3, i, rfl, blocks_keep h1 hB, blocks_keep h2 hB, blocks_keep h3 hB, own_below h4 hB, h5, fun g hg => ⟨(h6 g hg).1, Nat.lt_of_lt_of_le (h6 g hg).2 hB.size⟩⟩
      · obtain ⟨g, rfl, hg, hg'⟩ := hR
        exact ⟨g, rfl, hg, blocks_keep hg' hB⟩
    · obtain ⟨k, rfl⟩ : ∃ k, i = k + 11 := ⟨i - 11, by omega⟩
      obtain ⟨g, rfl, hg, hg'⟩ := hR
      exact ⟨g, rfl, hg, blocks_keep hg' hB⟩
  case hd =>
    intro i hi
    rcases lt11 hi with rfl | rfl | rfl | rfl | rfl | rfl | rfl | rfl | rfl | rfl | rfl <;> simp
  case step =>
    intro i o hi ho x W hdf hts hfr hB hdep hown hap
    have t1 := hfr 1 (by intro j hj; rcases lt11 hj with rfl | rfl | rfl | rfl | rfl | rfl | rfl | rfl | rfl | rfl | rfl <;> decide)
    have t2 := hfr 2 (by intro j hj; rcases lt11 hj with rfl | rfl | rfl | rfl | rfl | rfl | rfl | rfl | rfl | rfl | rfl <;> decide)
    simp at t1 t2
    rcases lt11 hi with rfl | rfl | rfl | rfl | rfl | rfl | rfl | rfl | rfl | rfl | rfl
    · simp at ho
      subst ho
      simp [Oper.wp, execOp, Oper.upon, Act.eval, hm1]
      exact ⟨_, rfl, ⟨_, rfl, heap_alloc_new _ _⟩, (Below.refl _ _).alloc (Nat.le_refl _) _, by intro g hg; simp [obk] at hg; omega⟩
    · simp at ho
      subst ho
      simp [Oper.wp, execOp, Oper.upon, Act.eval, t2, go_sem]
      exact ⟨_, rfl, rfl, Below.refl _ _⟩
    · simp at ho
      subst ho
      have e1 : x.tmps[16]?.getD undef = .pointer (some ⟨w.heap.size, 1, none⟩) := by have := hdep ⟨1, .data⟩ (by simp); simpa [Act.eval] using this
      have c1 := (hB.cell (p := ⟨w.heap.size, 1, none⟩) (by dsimp only; omega)).trans k2.1
      simp [Oper.wp, execOp, Oper.upon, e1, c1, go_sem]
      exact ⟨_, rfl, rfl, Below.refl _ _⟩
    · simp at ho
      subst ho
      have e1 := hdep ⟨2, .data⟩ (by simp)
      simp at e1
      simp [Oper.wp, execOp, Oper.upon, e1, hm2]
      exact ⟨_, rfl, ⟨_, rfl, heap_alloc_new _ _⟩, (Below.refl _ _).alloc (Nat.le_refl _) _, by intro g hg; simp [obk] at hg; omega⟩
    · simp at ho
      subst ho
      simp [Oper.wp, execOp, Oper.upon, Act.eval, t2, go_sem]
      exact ⟨_, rfl, rfl, Below.refl _ _⟩
    · simp at ho
      subst ho
      have e1 : x.tmps[19]?.getD undef = .pointer (some ⟨w.heap.size, 2, none⟩) := by have := hdep ⟨4, .data⟩ (by simp); simpa [Act.eval] using this
      have c1 := (hB.cell (p := ⟨w.heap.size, 2, none⟩) (by dsimp only; omega)).trans k2.2
      simp [Oper.wp, execOp, Oper.upon, e1, c1, go_sem]
      exact ⟨_, rfl, rfl, Below.refl _ _⟩
    · simp at ho
      subst ho
      have e1 := hdep ⟨5, .data⟩ (by simp)
      simp at e1
      simp [Oper.wp, execOp, Oper.upon, e1, hm3]
      exact ⟨_, rfl, ⟨_, rfl, heap_alloc_new _ _⟩, (Below.refl _ _).alloc (Nat.le_refl _) _, by intro g hg; simp [obk] at hg; omega⟩
    · simp at ho
      subst ho
      simp [Oper.wp, execOp, Oper.upon, Act.eval, t1, go_sem]
      exact ⟨_, rfl, rfl, Below.refl _ _⟩
    · simp at ho
      subst ho
      have e1 : x.tmps[22]?.getD undef = v := by have := hdep ⟨7, .data⟩ (by simp); simpa [Act.eval] using this
      simp [Oper.wp, execOp, Oper.upon, e1, go_sem]
      refine (HB.out W hB).mono ?_
      rintro e w3 ⟨u, rfl, h1, h3⟩
      exact ⟨u, rfl, own_mono h1 hB.size, h3, (own_obk h1).2⟩
    · simp at ho
      subst ho
      have o1 := hown ⟨0, .data⟩ (by simp)
      have o2 := hown ⟨3, .data⟩ (by simp)
      have o3 := hown ⟨6, .data⟩ (by simp)
      have o4 := hown ⟨8, .data⟩ (by simp)
      have p12 := hap ⟨0, .data⟩ (by simp) ⟨3, .data⟩ (by simp) (by simp)
      have p13 := hap ⟨0, .data⟩ (by simp) ⟨6, .data⟩ (by simp) (by simp)
      have p14 := hap ⟨0, .data⟩ (by simp) ⟨8, .data⟩ (by simp) (by simp)
      have p23 := hap ⟨3, .data⟩ (by simp) ⟨6, .data⟩ (by simp) (by simp)
      have p24 := hap ⟨3, .data⟩ (by simp) ⟨8, .data⟩ (by simp) (by simp)
      have p34 := hap ⟨6, .data⟩ (by simp) ⟨8, .data⟩ (by simp) (by simp)
      obtain ⟨g1, e1, b1⟩ := hdep ⟨0, .data⟩ (by simp)
      obtain ⟨g2, e2, b2⟩ := hdep ⟨3, .data⟩ (by simp)
      obtain ⟨g3, e3, b3⟩ := hdep ⟨6, .data⟩ (by simp)
      have b4 : W.ownsRow w2.heap.size 2 1 (x.eval (.tmp 23)) zs.length (zs.map (Value.int .i64)) := hdep ⟨8, .data⟩ (by simp)
      obtain ⟨ai, ci, e4⟩ := (Lis.of_own b4).1.len0
      simp only [List.getD_cons_succ, List.getD_cons_zero] at e1 e2 e3 o1 o2 o3 o4 p12 p13 p14 p23 p24 p34
      rw [e1] at o1 p12 p13 p14
      rw [e2] at o2 p12 p23 p24
      rw [e3] at o3 p13 p23 p34
      rw [e4] at o4 p14 p24 p34 b4
      have q4 := own_obk b4
      simp only [obk, List.mem_singleton, forall_eq] at o1 o2 o3 p12 p13 p23
      have p14' : ∀ g ∈ obk (.slice ai zs.length ci), g ≠ g1 := fun g hg e => p14 g1 (by simp [obk]) (e ▸ hg)
      have p24' : ∀ g ∈ obk (.slice ai zs.length ci), g ≠ g2 := fun g hg e => p24 g2 (by simp [obk]) (e ▸ hg)
      have p34' : ∀ g ∈ obk (.slice ai zs.length ci), g ≠ g3 := fun g hg e => p34 g3 (by simp [obk]) (e ▸ hg)
      simp only [Act.eval] at e1 e2 e3 e4
      have e1' : x.tmps[15]?.getD undef = .slice (some ⟨g1, 0, none⟩) 32 32 := by simpa using e1
      have e2' : x.tmps[18]?.getD undef = .slice (some ⟨g2, 0, none⟩) d.toNat d.toNat := by simpa using e2
      have e3' : x.tmps[21]?.getD undef = .slice (some ⟨g3, 0, none⟩) bd.toNat bd.toNat := by simpa using e3
      have e4' : x.tmps[23]?.getD undef = .slice ai zs.length ci := by simpa using e4
      simp [Oper.wp, execOp, Oper.upon, e1', e2', e3', e4', go_sem]
      refine ⟨_, rfl, ⟨g1, g2, g3, _, rfl, b1, b2, b3, b4, ?_, ?_⟩, Below.refl _ _⟩
      · exact ⟨⟨p12, p13, fun h => p14' g1 h rfl⟩, ⟨p23, fun h => p24' g2 h rfl⟩, fun h => p34' g3 h rfl, q4.1⟩
      · exact ⟨o1, o2, o3, q4.2⟩
    · simp at ho
      subst ho
      simp [Oper.wp, execOp, Oper.upon, go_sem]
      exact ⟨_, rfl, ⟨_, rfl, hB.size, heap_alloc_new _ _⟩, (Below.refl _ _).alloc (Nat.le_refl _) _⟩
  case fin =>
    intro o ho x W hG
    obtain ⟨hdf, hts, hfr, hB, hrel, hx1, hx2⟩ := hG
    simp at ho
    subst ho
    obtain ⟨g1, g2, g3, vi, e9, b1, b2, b3, b4, hnd, hbd⟩ := hrel 9 (by omega) trivial
    obtain ⟨g5, e10, hg5, b5⟩ := hrel 10 (by omega) trivial
    obtain ⟨tm, df⟩ := x
    obtain ⟨t0, t1, t2, t3, t4, t5, t6, t7, t8, t9, t10, t11, t12, t13, t14, t15, t16, t17, t18, t19, t20, t21, t22, t23, t24, t25, t26, t27, t28, rfl⟩ := arr29 tm (by simpa using hts)
    have F : ∀ t, (∀ j, j < 11 → [15, 16, 17, 18, 19, 20, 21, 22, 23, 24, 5].getD j 0 ≠ t) → _ := hfr
    have f0 := hfr 4 (by intro j hj; rcases lt11 hj with rfl | rfl | rfl | rfl | rfl | rfl | rfl | rfl | rfl | rfl | rfl <;> decide)
    obtain ⟨ai, ci, rfl⟩ := (Lis.of_own b4).1.len0
    simp [Act.eval] at e9 e10 f0 hdf
    subst e9 e10 f0 hdf
    rename_i hK
    have c0 : W.cell? ⟨g5, 0, none⟩ = some (.slice none 0 0) := by simp [World.cell?, b5]
    have c1 : W.cell? ⟨g5, 1, none⟩ = some (.int .u32 0) := by simp [World.cell?, b5]
    have c2 : W.cell? ⟨g5, 2, none⟩ = some (.slice none 0 0) := by simp [World.cell?, b5]
    have c3 : W.cell? ⟨g5, 3, none⟩ = some (.slice none 0 0) := by simp [World.cell?, b5]
    have c4 : W.cell? ⟨g5, 4, none⟩ = some (.slice none 0 0) := by simp [World.cell?, b5]
    have c5 : W.cell? ⟨g5, 5, none⟩ = some (.slice none 0 0) := by simp [World.cell?, b5]
    have c6 : W.cell? ⟨g5, 6, none⟩ = some (.int .u32 0) := by simp [World.cell?, b5]
    have c7 : W.cell? ⟨g5, 7, none⟩ = some (.int .i64 0) := by simp [World.cell?, b5]
    have f5 : ∀ j, W.frozen? ⟨g5, j, none⟩ = false := by intro j; simp [World.frozen?, b5]
    simp [Oper.wp, execOp, Oper.upon, go_sem, c0, c1, c2, c3, c4, c5, c6, c7, f5]
    have n1 : ¬ g1 = g5 := by
      intro e
      rw [e, b5] at b1
      simp at b1
    have n2 : ¬ g2 = g5 := by
      intro e
      rw [e, b5] at b2
      simp at b2
    have n3 : ¬ g3 = g5 := by
      intro e
      rw [e, b5] at b3
      simp at b3
    have n4 : g5 ∉ obk (.slice ai zs.length ci) := fun hg => by
      have := own_type b4 hg b5
      simp at this
    have L1 := lis_made b1
    have L2 := lis_made b2
    have L3 := lis_made b3
    have r12 : W.cell? ⟨g1, 2, none⟩ = some (.int .u32 0) := by simp [World.cell?, b1, madeCells, Nat.mod_one]
    have fr1 : ∀ j, W.frozen? ⟨g1, j, none⟩ = false := by intro j; simp [World.frozen?, b1]
    have m1 := (hbd g1 (by simp)).1
    have n1' : ¬ g5 = g1 := fun e => n1 e.symm
    have n6 : ¬ w.heap.size + 1 = g5 := by omega
    have n6' : ¬ g5 = w.heap.size + 1 := by omega
    have n7 : ¬ w.heap.size + 1 = g1 := by omega
    have HW : Hid _ := And.intro L1 (And.intro L2 (And.intro L3 b4))
    have HD : Hid _ := And.intro hnd hbd
    have zz : W.heap[w.heap.size + 1]? = some (.cells #[.slice none 0 0, .int .u32 0, .slice none 0 0, .slice none 0 0, .slice none 0 0, .slice none 0 0, .int .u32 0, .int .i64 0] 32) := (hB.block _ (by omega)).trans ((R2.block _ (by omega)).trans (by have h := heap_alloc_new (w.alloc (.cells #[.slice a len cap, .int .i64 d, .int .i64 bd] 25)) (.cells #[.slice none 0 0, .int .u32 0, .slice none 0 0, .slice none 0 0, .slice none 0 0, .slice none 0 0, .int .u32 0, .int .i64 0] 32); simpa only [World.size_alloc] using h))
    have z0 : W.cell? ⟨w.heap.size + 1, 0, none⟩ = some (.slice none 0 0) := by simp [World.cell?, zz]
    have z1 : W.cell? ⟨w.heap.size + 1, 1, none⟩ = some (.int .u32 0) := by simp [World.cell?, zz]
    have z2 : W.cell? ⟨w.heap.size + 1, 2, none⟩ = some (.slice none 0 0) := by simp [World.cell?, zz]
    have z3 : W.cell? ⟨w.heap.size + 1, 3, none⟩ = some (.slice none 0 0) := by simp [World.cell?, zz]
    have z4 : W.cell? ⟨w.heap.size + 1, 4, none⟩ = some (.slice none 0 0) := by simp [World.cell?, zz]
    have z5 : W.cell? ⟨w.heap.size + 1, 5, none⟩ = some (.slice none 0 0) := by simp [World.cell?, zz]
    have z6 : W.cell? ⟨w.heap.size + 1, 6, none⟩ = some (.int .u32 0) := by simp [World.cell?, zz]
    have z7 : W.cell? ⟨w.heap.size + 1, 7, none⟩ = some (.int .i64 0) := by simp [World.cell?, zz]
    have fz : ∀ j, W.frozen? ⟨w.heap.size + 1, j, none⟩ = false := by intro j; simp [World.frozen?, zz]
    clear L1 L2 L3 b4 b1 b2 b3 b5 hnd hbd hrel hfr zz hx1 hx2 F
    have BW : Below w.heap.size w W := B2.trans (hB.mono (by omega))
    refine hK _ _ ?_
    go_wp2
    refine bodyPost_ret (v := .agg #[.slice (some ⟨g1, 0, none⟩) 32 32, .int .u32 4096, .slice (some ⟨g2, 0, none⟩) d.toNat d.toNat, .slice (some ⟨g3, 0, none⟩) bd.toNat bd.toNat, .slice ai zs.length ci, .slice none 0 0, .int .u32 1073741824, .int .i64 0])
      (by simp [results, Try.results12, go_sem, z0, z1, z2, z3, z4, z5, z6, z7]) rfl ?_
    obtain ⟨L1, L2, L3, b4⟩ := HW.out
    obtain ⟨hnd, hbd⟩ := HD.out
    refine ⟨_, rfl, ?_⟩
    rw [show bootM len d bd zs = ⟨regs0, 4096, List.replicate d.toNat 0, List.replicate bd.toNat 0, zs, [], 1073741824, 0⟩ by unfold bootM; rw [hv, ho]; rfl]
    exact boot_close _ _ _ _ _ _ _ _ _ _ _ _ _ _ _ _ L1 L2 L3 b4 hnd hbd n1 n2 n3 n4 (by omega) (by omega) hg5 BW

end Go.Proofs.Ytabjcodpagjbjaa

namespace Go.Proofs.Ytabjcodpagjbjaa
open Go.RowKit
set_option linter.unusedVariables false
set_option linter.unusedSimpArgs false

theorem box_new {w w1 : World} {A C : Obj} (h : Below ((w.alloc A).alloc C).heap.size ((w.alloc A).alloc C) w1) : w1.heap[w.heap.size + 1]? = some C ∧ w1.heap[w.heap.size]? = some A := by
  constructor
  · rw [h.block _ (by simp)]
    have := heap_alloc_new (w.alloc A) C
    simpa only [World.size_alloc] using this
  · rw [h.block _ (by simp; omega), Below.heap_alloc _ _ _ (by simp)]
    exact heap_alloc_new w A
theorem cpu_zero (w : World) (B : Nat) : CpuAt w B (.agg #[.slice none 0 0, .int .u32 0, .slice none 0 0, .slice none 0 0, .slice none 0 0, .slice none 0 0, .int .u32 0, .int .i64 0]) zeroM :=
  ⟨_, _, _, _, _, rfl, Lis.nil _ _ _ _, Lis.nil _ _ _ _, Lis.nil _ _ _ _, Lis.nil _ _ _ _, World.ownsRow_nil _ _ _ _, by simp [obk], by simp [obk], Nat.le_refl _, Nat.le_refl _, Nat.le_refl _⟩

set_option maxRecDepth 8000 in
set_option maxHeartbeats 2000000 in
theorem boot_i_no1 (a : Option Addr) (len cap : Nat) (d bd : Int) (v : Value) (w : World) (hl : len ≤ 1048576) (hv : vimg len d bd = false) :
    Calls Try.prog 12 #[.agg #[.slice a len cap, .int .i64 d, .int .i64 bd], v] w fun e w' => e = .returned (.agg #[.slice none 0 0, .int .u32 0, .slice none 0 0, .slice none 0 0, .slice none 0 0, .slice none 0 0, .int .u32 0, .int .i64 0]) ∧ Below w.heap.size w w' := by
  go_enter Try.func12, Try.ntmps12
  go_wp2_with fail
  refine (vi_any a len cap d bd _ hl).mono ?_
  rintro e w1 ⟨rfl, hb1⟩
  have zz := (box_new hb1).1
  have B1 : Below w.heap.size w w1 := (((Below.refl _ _).alloc (Nat.le_refl _) _).alloc (by simp) _).trans (hb1.mono (by simp; omega))
  have z0 : w1.cell? ⟨w.heap.size + 1, 0, none⟩ = some (.slice none 0 0) := by simp [World.cell?, zz]
  have z1 : w1.cell? ⟨w.heap.size + 1, 1, none⟩ = some (.int .u32 0) := by simp [World.cell?, zz]
  have z2 : w1.cell? ⟨w.heap.size + 1, 2, none⟩ = some (.slice none 0 0) := by simp [World.cell?, zz]
  have z3 : w1.cell? ⟨w.heap.size + 1, 3, none⟩ = some (.slice none 0 0) := by simp [World.cell?, zz]
  have z4 : w1.cell? ⟨w.heap.size + 1, 4, none⟩ = some (.slice none 0 0) := by simp [World.cell?, zz]
  have z5 : w1.cell? ⟨w.heap.size + 1, 5, none⟩ = some (.slice none 0 0) := by simp [World.cell?, zz]
  have z6 : w1.cell? ⟨w.heap.size + 1, 6, none⟩ = some (.int .u32 0) := by simp [World.cell?, zz]
  have z7 : w1.cell? ⟨w.heap.size + 1, 7, none⟩ = some (.int .i64 0) := by simp [World.cell?, zz]
  have zf : ∀ j, w1.frozen? ⟨w.heap.size + 1, j, none⟩ = false := by intro j; simp [World.frozen?, zz]
  rw [hv]
  clear hb1 zz
  go_wp2
  refine bodyPost_ret (v := .agg #[.slice none 0 0, .int .u32 0, .slice none 0 0, .slice none 0 0, .slice none 0 0, .slice none 0 0, .int .u32 0, .int .i64 0]) (by simp [results, Try.results12, go_sem, z0, z1, z2, z3, z4, z5, z6, z7]) rfl ⟨rfl, ?_⟩
  exact ((Tcs.refl (fun k => k = w.heap.size + 1) w1).set8 _ rfl _ _ _ _ _ _ _ _).below B1 B1.size (by rintro k rfl; omega)

set_option maxRecDepth 8000 in
set_option maxHeartbeats 2000000 in
theorem boot_i_no2 (a : Option Addr) (len cap : Nat) (d bd : Int) (v : Value) (zs : List Int) (w : World) (hl : len ≤ 1048576) (hz : zs.length ≤ 2097152) (h : Lis .i64 w v zs) (hv : vimg len d bd = true) (ho : okIn zs = false) :
    Calls Try.prog 12 #[.agg #[.slice a len cap, .int .i64 d, .int .i64 bd], v] w fun e w' => e = .returned (.agg #[.slice none 0 0, .int .u32 0, .slice none 0 0, .slice none 0 0, .slice none 0 0, .slice none 0 0, .int .u32 0, .int .i64 0]) ∧ Below w.heap.size w w' := by
  have HL : Hid _ := h
  clear h
  go_enter Try.func12, Try.ntmps12
  go_wp2_with fail
  refine (vi_any a len cap d bd _ hl).mono ?_
  rintro e w1 ⟨rfl, hb1⟩
  have zz0 := (box_new hb1).1
  have s1 := hb1.size
  simp only [World.size_alloc] at s1
  have B1 : Below w.heap.size w w1 := (((Below.refl _ _).alloc (Nat.le_refl _) _).alloc (by simp) _).trans (hb1.mono (by simp; omega))
  rw [hv]
  go_wp2_with fail
  refine (input_i v zs _ hz (Lis.below HL.out B1)).mono ?_
  rintro e w2 ⟨rfl, hb2⟩
  have zz := blocks_keep zz0 hb2
  have B2 : Below w.heap.size w w2 := B1.trans (hb2.mono (by omega))
  have z0 : w2.cell? ⟨w.heap.size + 1, 0, none⟩ = some (.slice none 0 0) := by simp [World.cell?, zz]
  have z1 : w2.cell? ⟨w.heap.size + 1, 1, none⟩ = some (.int .u32 0) := by simp [World.cell?, zz]
  have z2 : w2.cell? ⟨w.heap.size + 1, 2, none⟩ = some (.slice none 0 0) := by simp [World.cell?, zz]
  have z3 : w2.cell? ⟨w.heap.size + 1, 3, none⟩ = some (.slice none 0 0) := by simp [World.cell?, zz]
  have z4 : w2.cell? ⟨w.heap.size + 1, 4, none⟩ = some (.slice none 0 0) := by simp [World.cell?, zz]
  have z5 : w2.cell? ⟨w.heap.size + 1, 5, none⟩ = some (.slice none 0 0) := by simp [World.cell?, zz]
  have z6 : w2.cell? ⟨w.heap.size + 1, 6, none⟩ = some (.int .u32 0) := by simp [World.cell?, zz]
  have z7 : w2.cell? ⟨w.heap.size + 1, 7, none⟩ = some (.int .i64 0) := by simp [World.cell?, zz]
  have zf : ∀ j, w2.frozen? ⟨w.heap.size + 1, j, none⟩ = false := by intro j; simp [World.frozen?, zz]
  rw [ho]
  clear hb1 zz zz0 hb2
  go_wp2
  refine bodyPost_ret (v := .agg #[.slice none 0 0, .int .u32 0, .slice none 0 0, .slice none 0 0, .slice none 0 0, .slice none 0 0, .int .u32 0, .int .i64 0]) (by simp [results, Try.results12, go_sem, z0, z1, z2, z3, z4, z5, z6, z7]) rfl ⟨rfl, ?_⟩
  exact ((Tcs.refl (fun k => k = w.heap.size + 1) w2).set8 _ rfl _ _ _ _ _ _ _ _).below B2 B2.size (by rintro k rfl; omega)

theorem boot_i (a : Option Addr) (len cap : Nat) (d bd : Int) (v : Value) (zs : List Int) (w : World) (hl : len ≤ 1048576) (hz : zs.length ≤ 2097152) (h : Lis .i64 w v zs) :
    Calls Try.prog 12 #[.agg #[.slice a len cap, .int .i64 d, .int .i64 bd], v] w fun e w' => ∃ u, e = .returned u ∧ CpuAt w' w.heap.size u (bootM len d bd zs) ∧ Below w.heap.size w w' := by
  cases hv : vimg len d bd with
  | false =>
    refine (boot_i_no1 a len cap d bd v w hl hv).mono fun e w' ⟨he, hb⟩ => ⟨_, he, ?_, hb⟩
    rw [show bootM len d bd zs = zeroM by unfold bootM; rw [hv]; rfl]
    exact cpu_zero _ _
  | true =>
    cases ho : okIn zs with
    | true => exact boot_i_yes a len cap d bd v zs w hl hz h hv ho
    | false =>
      refine (boot_i_no2 a len cap d bd v zs w hl hz h hv ho).mono fun e w' ⟨he, hb⟩ => ⟨_, he, ?_, hb⟩
      rw [show bootM len d bd zs = zeroM by unfold bootM; rw [hv, ho]; rfl]
      exact cpu_zero _ _

end Go.Proofs.Ytabjcodpagjbjaa

namespace Go.Proofs.Ytabjcodpagjbjaa
open Go.RowKit
set_option linter.unusedVariables false

/-- 'append(v, s...)': v the call's own, s a slice of numbers, nil or not. -/
theorem wpList_append_lis {P : Program} (w : World) {ops : Array Oper} {rest : List Oper} {o : Oper} {a : Act} {Q : Exit → Act → World → Prop} (hgd : o.guard = none) (s x : Operand) (t : TypeId)
    (ho : o.op = .call { callee := .builtin .append, args := #[s, x], argTypes := #[t, t] })
    (base : Nat) (e : TypeId) (i : TypeInfo) (k : IntKind) (bytes : Nat) (ht : P.underlying t = some (.slice e)) (hi : P.info? e = some i) (hz : i.zero = some (.int k 0)) (hsize : i.size = 1) (hby : i.bytes = bytes)
    (v : Value) (n : Nat) (xs : List Value) (hs : a.eval s = v) (hown : w.ownsRow base e 1 v n xs) (sv : Value) (zs : List Int) (hx : a.eval x = sv) (L : Lis k w sv zs)
    (h63 : n + zs.length ≤ maxLen) (hbytes : (n + zs.length) * bytes ≤ 140737488355328) (hbase : base ≤ w.heap.size)
    (hnil : sv = .slice none 0 0 ∨ ∃ ad m c, sv = .slice (some ad) m c)
    (h : ∀ v' w', w'.ownsRow base e 1 v' (n + zs.length) (xs ++ zs.map (Value.int k)) → w.grownBy w' v.ownBlock → wpList P ops Q rest (a.put o.dst v') w') : wpList P ops Q (o :: rest) a w := by
  obtain ⟨av, cv, rfl, hr⟩ := L
  rcases hnil with hnil | ⟨ad, m, c, hnil⟩
  · simp only [Value.slice.injEq] at hnil
    obtain ⟨rfl, h0, rfl⟩ := hnil
    obtain rfl : zs = [] := List.eq_nil_of_length_eq_zero h0
    refine wpList_append_own_none hgd s x t ho base e i 1 ht hi v n xs hs hown hx (h v w ?_ ⟨rfl, rfl, rfl, Nat.le_refl _, fun _ _ _ => rfl⟩)
    simpa using hown
  · simp only [Value.slice.injEq] at hnil
    obtain ⟨rfl, rfl, rfl⟩ := hnil
    refine wpList_append_own w hgd s x t ho base e i (.int k 0) 1 bytes ht hi hz hsize hby rfl (by decide) v n xs hs hown ad zs.length cv (zs.map (Value.int k)) hx (by simp) ?_ ?_ h63 hbytes hbase fun v' w' h1 h2 _ => h v' w' h1 h2
    · intro j u hj
      have hj' : j < zs.length := by
        have := (List.getElem?_eq_some_iff.mp hj).1
        simpa using this
      obtain ⟨g, off, e, hR⟩ := hr (by omega)
      simp only [Option.some.injEq] at e
      subst e
      rw [Addr.add_lit, hR.cell j hj']
      simp only [List.getElem?_map, Option.map_eq_some_iff] at hj
      obtain ⟨z, hz, rfl⟩ := hj
      simp [List.getD, hz]
    · intro u hu
      simp only [List.mem_map] at hu
      obtain ⟨z, _, rfl⟩ := hu
      rfl
end Go.Proofs.Ytabjcodpagjbjaa
