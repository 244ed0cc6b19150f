import Derived.Test.YtabjcodpagjbjaaP37
import Derived.Deep.RegionHeld3
import Derived.Deep.Cut
import Derived.Test.YtabjcodpagjbjaaP32
import Derived.Test.YtabjcodpagjbjaaP31
namespace Go.Proofs.Ytabjcodpagjbjaa
open Go.RowKit
set_option linter.unusedVariables false
set_option linter.unusedSectionVars false
set_option linter.unusedSimpArgs false
variable [Inhabited Pick]
theorem own_hnil {W : World} {B e size n : Nat} {v : Value} {xs : List Value} (h : W.ownsRow B e size v n xs) : v = .slice none 0 0 ∨ ∃ ad m c, v = .slice (some ad) m c := by
  rcases h.2 with ⟨h', _⟩ | ⟨g, cap, cur, h', _⟩
  · exact .inl h'
  · exact .inr ⟨_, _, _, h'⟩
theorem Tch.sm {g : Nat} {W W' : World} (h : Tch g W W') {q : Nat} (hq : q < W.heap.size) (hg : q ≠ g) (o : Nat) : W'.cell? ⟨q, o, none⟩ = W.cell? ⟨q, o, none⟩ := h.cell hq hg
theorem Tcs.st (W : World) (q o : Nat) (u : Value) : Tcs (fun k => k = q) W (W.setCell ⟨q, o, none⟩ u) := ⟨rfl, rfl, rfl, by simp, fun k hk hn => Below.heap_setCell W _ _ k (by dsimp only; exact hn)⟩
set_option maxRecDepth 8000 in
set_option maxHeartbeats 2000000 in
theorem run_draw (a : Option Addr) (len cap : Nat) (w : World) (hl : len ≤ 1048576) (hb : B8 w a len) :
    Calls Try.prog 5 #[.slice a len cap] w fun e w' => ∃ am cm vi, ∃ zs is : List Int, ∃ d b st : Int, e = .returned (.tuple #[.agg #[.slice am zs.length cm, .int .i64 d, .int .i64 b], vi, .int .i64 st]) ∧ Lis .u32 w' (.slice am zs.length cm) zs ∧ (zs.length ≤ 14) ∧ (∀ j, j < zs.length → 0 ≤ zs.getD j 0 ∧ zs.getD j 0 ≤ 4294967295) ∧ Lis .i64 w' vi is ∧ is.length ≤ 2000 ∧ (vi = .slice none 0 0 ∨ ∃ ad m c, vi = .slice (some ad) m c) ∧ Below w.heap.size w w' := by
  have HB : Hid _ := hb.below (Below.refl _ w |>.alloc (Nat.le_refl _) (.cells #[.slice none 0 0, .int .i64 0, .int .i64 0] 25))
  clear hb
  go_enter Try.func5, Try.ntmps5
  go_wp2_with fail
  refine (new_any a len cap _ hl HB.out).mono ?_
  rintro e w1 ⟨rfl, hc1, hb1, hs1⟩
  simp only [World.size_alloc] at hc1 hs1
  have R1 : ∀ o, w1.cell? ⟨w.heap.size, o, none⟩ = (w.alloc (.cells #[.slice none 0 0, .int .i64 0, .int .i64 0] 25)).cell? ⟨w.heap.size, o, none⟩ := fun o => hb1.cell (by simp)
  have F1 : ∀ o, w1.frozen? ⟨w.heap.size, o, none⟩ = (w.alloc (.cells #[.slice none 0 0, .int .i64 0, .int .i64 0] 25)).frozen? ⟨w.heap.size, o, none⟩ := fun o => World.frozen?_of_block (hb1.block _ (by simp))
  have B1 : Below w.heap.size w w1 := ((Below.refl _ w).alloc (Nat.le_refl _) _).trans (hb1.mono (by simp))
  have H1 : Hid _ := And.intro hc1 (And.intro R1 (And.intro F1 B1))
  have Hs1 : Hid _ := hs1
  clear hc1 hb1 R1 F1 B1 hs1 HB
  go_wp2_with fail
  refine (img_draw _ a len cap _ hl H1.out.1).mono ?_
  rintro e w2 ⟨v, zs, d, b, rfl, ho2, hz2, hb2, hdb2, hc2, ht2⟩
  obtain ⟨am, cm, rfl⟩ := own_slice ho2
  have L2 := (Lis.of_own ho2)
  have s2 := ht2.size
  have s1 : w1.heap.size = w.heap.size + 1 + 1 := Hs1.out
  have R2 := fun o => (ht2.cell (k := w.heap.size) (o := o) (by omega) (by omega)).trans (H1.out.2.1 o)
  have F2 := fun o => (ht2.frozen (k := w.heap.size) (o := o) (by omega) (by omega)).trans (H1.out.2.2.1 o)
  have B2 : Below w.heap.size w w2 := ht2.below H1.out.2.2.2 (by omega) (by omega)
  have H2 : Hid (Cur (w.heap.size + 1) a len cap w2 ∧ (∀ o, w2.cell? ⟨w.heap.size, o, none⟩ = (w.alloc (.cells #[.slice none 0 0, .int .i64 0, .int .i64 0] 25)).cell? ⟨w.heap.size, o, none⟩) ∧ (∀ o, w2.frozen? ⟨w.heap.size, o, none⟩ = (w.alloc (.cells #[.slice none 0 0, .int .i64 0, .int .i64 0] 25)).frozen? ⟨w.heap.size, o, none⟩) ∧ Below w.heap.size w w2 ∧ w2.ownsRow w1.heap.size _ 1 (.slice am zs.length cm) zs.length (zs.map (Value.int .u32))) := ⟨hc2, R2, F2, B2, ho2⟩
  have Hs2 : Hid (w.heap.size + 2 ≤ w2.heap.size ∧ w1.heap.size = w.heap.size + 2) := ⟨by omega, by omega⟩
  clear H1 Hs1 R2 F2 B2 ho2 L2 s2 s1 ht2 hc2
  go_wp2_with fail
  refine (in_draw _ a len cap _ hl (H2.out.1.alloc _)).mono ?_
  rintro e w3 ⟨vi, is, rfl, ho3, hz3, hc3, ht3⟩
  obtain ⟨ai, ci, rfl⟩ := own_slice ho3
  have T3 : Hid _ := And.intro hc3 (And.intro ht3 (And.intro ho3 (own_hnil ho3)))
  clear hc3 ht3 ho3
  go_wp2_with fail
  refine (below_any _ a len cap _ _ hl T3.out.1 (by omega)).mono ?_
  rintro e w4 ⟨x4, rfl, hx4, hc4, ht4⟩
  have T4 : Hid _ := And.intro hc4 ht4
  clear hc4 ht4
  go_wp2_with fail
  refine (below_any _ a len cap _ _ hl T4.out.1 (by omega)).mono ?_
  rintro e w5 ⟨x5, rfl, hx5, hc5, ht5⟩
  have T45 := T4.out.2.trans ht5
  have T35 := T3.out.2.1.trans T45
  obtain ⟨s2, s1⟩ := Hs2.out
  have s35 := T35.size
  simp only [World.size_alloc] at s35
  have m0 : w5.cell? ⟨w2.heap.size, 0, none⟩ = some (.slice am zs.length cm) := (T35.cell (k := w2.heap.size) (o := 0) (by simp) (by omega)).trans (World.cell?_alloc_at _ _ _ 0 rfl)
  have m1 : w5.cell? ⟨w2.heap.size, 1, none⟩ = some (.int .i64 d) := (T35.cell (k := w2.heap.size) (o := 1) (by simp) (by omega)).trans (World.cell?_alloc_at _ _ _ 1 rfl)
  have m2 : w5.cell? ⟨w2.heap.size, 2, none⟩ = some (.int .i64 b) := (T35.cell (k := w2.heap.size) (o := 2) (by simp) (by omega)).trans (World.cell?_alloc_at _ _ _ 2 rfl)
  have r0 : w5.cell? ⟨w.heap.size, 0, none⟩ = some (.slice none 0 0) := ((T35.cell (k := w.heap.size) (o := 0) (by simp; omega) (by omega)).trans ((World.cell?_alloc_past _ w.heap.size 0 (by omega)).trans (H2.out.2.1 0))).trans (World.cell?_alloc_at _ _ _ 0 rfl)
  have r1 : w5.cell? ⟨w.heap.size, 1, none⟩ = some (.int .i64 0) := ((T35.cell (k := w.heap.size) (o := 1) (by simp; omega) (by omega)).trans ((World.cell?_alloc_past _ w.heap.size 1 (by omega)).trans (H2.out.2.1 1))).trans (World.cell?_alloc_at _ _ _ 1 rfl)
  have r2 : w5.cell? ⟨w.heap.size, 2, none⟩ = some (.int .i64 0) := ((T35.cell (k := w.heap.size) (o := 2) (by simp; omega) (by omega)).trans ((World.cell?_alloc_past _ w.heap.size 2 (by omega)).trans (H2.out.2.1 2))).trans (World.cell?_alloc_at _ _ _ 2 rfl)
  have rf : ∀ o, w5.frozen? ⟨w.heap.size, o, none⟩ = false := fun o => ((T35.frozen (k := w.heap.size) (o := o) (by simp; omega) (by omega)).trans ((World.frozen?_of_block (Below.heap_alloc w2 _ w.heap.size (by omega))).trans (H2.out.2.2.1 o))).trans (by simp)
  have O1 : w5.ownsRow w1.heap.size 30 1 (.slice am zs.length cm) zs.length (zs.map (Value.int .u32)) := own_tcs (H2.out.2.2.2.2.alloc _) T35.tcs (fun k hk e => by have := (own_obk H2.out.2.2.2.2).2 k hk; omega)
  have O2 : w5.ownsRow (w2.heap.size + 1) 2 1 (.slice ai is.length ci) is.length (is.map (Value.int .i64)) := by
    have h := T3.out.2.2.1
    simp only [World.size_alloc] at h
    exact own_tcs h T45.tcs (fun k hk e => by have := (own_obk h).2 k hk; omega)
  have B5 : Below w.heap.size w w5 := T35.below (H2.out.2.2.2.1.alloc (by omega) _) (by simp; omega) (by omega)
  have L1 := (Lis.of_own O1)
  have L2 := (Lis.of_own O2)
  have HF : Hid _ := And.intro L1 (And.intro L2 (And.intro B5 T3.out.2.2.2))
  have hne : ¬ w2.heap.size = w.heap.size := by omega
  clear T45 T35 O1 O2 B5 L1 L2 T3 T4 H2 hc5 ht5
  have hx : x5 = 0 ∨ x5 = 1 ∨ (¬ x5 = 0 ∧ ¬ x5 = 1) := by omega
  rcases hx with rfl | rfl | ⟨h50, h51⟩
  all_goals
    go_wp2
    refine bodyPost_ret (v := .tuple #[.agg #[.slice am zs.length cm, .int .i64 d, .int .i64 b], .slice ai is.length ci, _]) (by simp [results, Try.results5, go_sem, r0, r1, r2]; rfl) rfl ?_
    refine ⟨_, _, _, zs, is, _, _, _, rfl, ?_, hz2.2, hb2, ?_, hz3, HF.out.2.2.2, ?_⟩
    · exact (((HF.out.1.1.tcs (Tcs.st w5 _ _ _) (fun q hq e => by have := HF.out.1.2 q hq; have e' : q = w.heap.size := e; omega)).tcs (Tcs.st _ _ _ _) (fun q hq e => by have := HF.out.1.2 q hq; have e' : q = w.heap.size := e; omega)).tcs (Tcs.st _ _ _ _) (fun q hq e => by have := HF.out.1.2 q hq; have e' : q = w.heap.size := e; omega))
    · exact (((HF.out.2.1.1.tcs (Tcs.st w5 _ _ _) (fun q hq e => by have := HF.out.2.1.2 q hq; have e' : q = w.heap.size := e; omega)).tcs (Tcs.st _ _ _ _) (fun q hq e => by have := HF.out.2.1.2 q hq; have e' : q = w.heap.size := e; omega)).tcs (Tcs.st _ _ _ _) (fun q hq e => by have := HF.out.2.1.2 q hq; have e' : q = w.heap.size := e; omega))
    · exact ((HF.out.2.2.1.setCell (Nat.le_refl _) _).setCell (Nat.le_refl _) _).setCell (Nat.le_refl _) _
end Go.Proofs.Ytabjcodpagjbjaa

namespace Go.Proofs.Ytabjcodpagjbjaa
open Go.RowKit
set_option linter.unusedVariables false
set_option linter.unusedSectionVars false
set_option linter.unusedSimpArgs false
variable [Inhabited Pick]

/-- Six cells that hold what was read out of a word. -/
structure Six (W : World) (g p : Nat) (x : Dec) : Prop where
  c0 : W.cell? ⟨g, p, none⟩ = some (.bool x.o)
  c1 : W.cell? ⟨g, p + 1, none⟩ = some (.int .i64 x.k)
  c2 : W.cell? ⟨g, p + 2, none⟩ = some (.int .i64 x.a)
  c3 : W.cell? ⟨g, p + 3, none⟩ = some (.int .i64 x.b)
  c4 : W.cell? ⟨g, p + 4, none⟩ = some (.int .i64 x.s)
  c5 : W.cell? ⟨g, p + 5, none⟩ = some (.int .i64 x.d)
theorem Six.keep {W W' : World} {g p : Nat} {x : Dec} (h : Six W g p x) (hb : W'.heap[g]? = W.heap[g]?) : Six W' g p x := by
  have k := fun j => World.cell?_of_block (w := W) (w' := W') (a := ⟨g, j, none⟩) hb
  exact ⟨(k _).trans h.c0, (k _).trans h.c1, (k _).trans h.c2, (k _).trans h.c3, (k _).trans h.c4, (k _).trans h.c5⟩
/-- The fetcher in block Fb, what it knows in block gk. -/
structure Ftc (W : World) (Fb gk : Nat) (a : Option Addr) (len cap : Nat) (d bd : Int) (codes : List Int) : Prop where
  lt : Fb < W.heap.size
  i0 : W.cell? ⟨Fb, 0, none⟩ = some (.slice a len cap)
  i1 : W.cell? ⟨Fb, 1, none⟩ = some (.int .i64 d)
  i2 : W.cell? ⟨Fb, 2, none⟩ = some (.int .i64 bd)
  tab : ∀ j, j < 35 → W.cell? ⟨Fb, 3 + j, none⟩ = tabA[j]?
  kn : W.cell? ⟨Fb, 38, none⟩ = some (.slice (some ⟨gk, 0, none⟩) len len)
  kl : gk < W.heap.size
  kf : ∀ j, W.frozen? ⟨gk, j, none⟩ = false
  ks : ∀ i, i < len → ∃ x : Dec, (x = Dec.no ∨ x = decOf (codes.getD i 0)) ∧ Six W gk (i * 6) x
  ne : Fb ≠ gk
theorem Ftc.keep {W W' : World} {Fb gk : Nat} {a : Option Addr} {len cap : Nat} {d bd : Int} {codes : List Int} (h : Ftc W Fb gk a len cap d bd codes) (hs : W.heap.size ≤ W'.heap.size) (hb : W'.heap[Fb]? = W.heap[Fb]?) (hk : W'.heap[gk]? = W.heap[gk]?) : Ftc W' Fb gk a len cap d bd codes := by
  have k := fun j => World.cell?_of_block (w := W) (w' := W') (a := ⟨Fb, j, none⟩) hb
  exact ⟨Nat.lt_of_lt_of_le h.lt hs, (k _).trans h.i0, (k _).trans h.i1, (k _).trans h.i2, fun j hj => (k _).trans (h.tab j hj), (k _).trans h.kn, Nat.lt_of_lt_of_le h.kl hs, fun j => (World.frozen?_of_block (w := W) (a := ⟨gk, j, none⟩) hk).trans (h.kf j), fun i hi => by obtain ⟨x, hx, hs⟩ := h.ks i hi; exact ⟨x, hx, hs.keep hk⟩, h.ne⟩
theorem Ftc.below {W W' : World} {Fb gk : Nat} {a : Option Addr} {len cap : Nat} {d bd : Int} {codes : List Int} (h : Ftc W Fb gk a len cap d bd codes) (hb : Below W.heap.size W W') : Ftc W' Fb gk a len cap d bd codes :=
  h.keep hb.size (hb.block _ h.lt) (hb.block _ h.kl)
theorem Ftc.tcs {S : Nat → Prop} {W W' : World} {Fb gk : Nat} {a : Option Addr} {len cap : Nat} {d bd : Int} {codes : List Int} (h : Ftc W Fb gk a len cap d bd codes) (ht : Tcs S W W') (h1 : ¬ S Fb) (h2 : ¬ S gk) : Ftc W' Fb gk a len cap d bd codes :=
  h.keep ht.size (ht.block _ h.lt h1) (ht.block _ h.kl h2)


theorem below_set6 {B : Nat} {w w1 : World} (h : Below B w w1) {g : Nat} (hg : B ≤ g) (u0 u1 u2 u3 u4 u5 : Value) : Below B w ((((((w1.setCell ⟨g, 0, none⟩ u0).setCell ⟨g, 1, none⟩ u1).setCell ⟨g, 2, none⟩ u2).setCell ⟨g, 3, none⟩ u3).setCell ⟨g, 4, none⟩ u4).setCell ⟨g, 5, none⟩ u5) :=
  (((((h.setCell (p := ⟨g, 0, none⟩) hg u0).setCell (p := ⟨g, 1, none⟩) hg u1).setCell (p := ⟨g, 2, none⟩) hg u2).setCell (p := ⟨g, 3, none⟩) hg u3).setCell (p := ⟨g, 4, none⟩) hg u4).setCell (p := ⟨g, 5, none⟩) hg u5


set_option maxRecDepth 8000 in
set_option maxHeartbeats 1000000 in
theorem fe_no (Fb gk : Nat) (a : Option Addr) (len cap : Nat) (d bd pc : Int) (codes : List Int) (w : World) (hf : Ftc w Fb gk a len cap d bd codes) (hco : CodesOk codes) (hll : len = codes.length) (hpc : 0 ≤ pc ∧ pc ≤ 4294967295) (hp : ¬ (4096 ≤ pc ∧ (pc - 4096) % 4 = 0 ∧ (pc - 4096) / 4 < (len : Int))) :
    Calls Try.prog 29 #[.pointer (some ⟨Fb, 0, none⟩), .int .u32 pc] w fun e w' => e = .returned (Dec.no.val) ∧ Ftc w' Fb gk a len cap d bd codes ∧ Tcs (fun k => k = gk) w w' := by
  have A1 : Below w.heap.size w (w.alloc (.cells #[.bool false, .int .i64 0, .int .i64 0, .int .i64 0, .int .i64 0, .int .i64 0] 66)) := (Below.refl _ _).alloc (Nat.le_refl _) _
  have hfa := hf.below A1
  have i0 := hfa.i0
  have i1 := hfa.i1
  have i2 := hfa.i2
  have kn := hfa.kn
  have e1 : ¬ Fb = w.heap.size := by have := hf.lt; omega
  have e2 : ¬ gk = w.heap.size := by have := hf.kl; omega
  have hlI : (len : Int) ≤ 20000 := by have := hco.1; omega
  have HF : Hid _ := And.intro hf (And.intro hco (And.intro hll (And.intro hpc hfa)))
  have HWI : Hid (∀ W, _) := fun W => wi_no a len cap d bd pc W hlI hpc hp
  clear hf hco hll hpc hp A1 hfa
  go_enter Try.func29, Try.ntmps29
  go_wp2_with fail
  refine (HWI.out _).mono ?_
  rintro e w1 ⟨i, rfl, hb1⟩
  have R1 : w1.heap[w.heap.size]? = some (.cells #[.bool false, .int .i64 0, .int .i64 0, .int .i64 0, .int .i64 0, .int .i64 0] 66) := (hb1.block _ (by simp)).trans (heap_alloc_new w _)
  have z0 := cell_of R1 (j := 0) rfl
  have z1 := cell_of R1 (j := 1) rfl
  have z2 := cell_of R1 (j := 2) rfl
  have z3 := cell_of R1 (j := 3) rfl
  have z4 := cell_of R1 (j := 4) rfl
  have z5 := cell_of R1 (j := 5) rfl
  have zf : ∀ j, w1.frozen? ⟨w.heap.size, j, none⟩ = false := fun j => by simp [World.frozen?, R1]
  have HB : Hid (Below w.heap.size w w1) := ((Below.refl _ _).alloc (Nat.le_refl _) _).trans (hb1.mono (by simp))
  clear R1 hb1
  dsimp only
  go_wp2
  refine bodyPost_ret (v := .agg #[.bool false, .int .i64 0, .int .i64 0, .int .i64 0, .int .i64 0, .int .i64 0]) (by simp [results, Try.results29, go_sem, z0, z1, z2, z3, z4, z5]) rfl ?_
  exact ⟨rfl, HF.out.1.below (below_set6 HB.out (Nat.le_refl _) _ _ _ _ _ _), Below.tcs (below_set6 HB.out (Nat.le_refl _) _ _ _ _ _ _)⟩


set_option maxRecDepth 8000 in
set_option maxHeartbeats 1000000 in
theorem fe_hit (Fb gk : Nat) (a : Option Addr) (len cap : Nat) (d bd pc : Int) (codes : List Int) (w : World) (hf : Ftc w Fb gk a len cap d bd codes) (hco : CodesOk codes) (hll : len = codes.length) (hpc : 0 ≤ pc ∧ pc ≤ 4294967295) (n : Nat) (hn : n < len) (hp : pc = 4096 + 4 * (n : Int)) (x : Dec) (hx : Six w gk (n * 6) x) (ho : x.o = true) :
    Calls Try.prog 29 #[.pointer (some ⟨Fb, 0, none⟩), .int .u32 pc] w fun e w' => e = .returned (x.val) ∧ Ftc w' Fb gk a len cap d bd codes ∧ Tcs (fun k => k = gk) w w' := by
  have A1 : Below w.heap.size w (w.alloc (.cells #[.bool false, .int .i64 0, .int .i64 0, .int .i64 0, .int .i64 0, .int .i64 0] 66)) := (Below.refl _ _).alloc (Nat.le_refl _) _
  have hfa := hf.below A1
  have i0 := hfa.i0
  have i1 := hfa.i1
  have i2 := hfa.i2
  have kn := hfa.kn
  have e1 : ¬ Fb = w.heap.size := by have := hf.lt; omega
  have e2 : ¬ gk = w.heap.size := by have := hf.kl; omega
  have hlI : (len : Int) ≤ 20000 := by have := hco.1; omega
  have HF : Hid _ := And.intro hf (And.intro hco (And.intro hll (And.intro hpc hfa)))
  have HX : Hid _ := hx
  have HWI : Hid (∀ W, _) := fun W => wi_yes a len cap n d bd pc W hlI (by omega) hp
  have hnI : (n : Int) < (len : Int) := by omega
  have hnI0 : (0 : Int) ≤ (n : Int) := by omega
  clear hf hco hll hpc hp A1 hfa hx
  go_enter Try.func29, Try.ntmps29
  go_wp2_with fail
  refine (HWI.out _).mono ?_
  rintro e w1 ⟨rfl, hb1⟩
  have R1 : w1.heap[w.heap.size]? = some (.cells #[.bool false, .int .i64 0, .int .i64 0, .int .i64 0, .int .i64 0, .int .i64 0] 66) := (hb1.block _ (by simp)).trans (heap_alloc_new w _)
  have z0 := cell_of R1 (j := 0) rfl
  have z1 := cell_of R1 (j := 1) rfl
  have z2 := cell_of R1 (j := 2) rfl
  have z3 := cell_of R1 (j := 3) rfl
  have z4 := cell_of R1 (j := 4) rfl
  have z5 := cell_of R1 (j := 5) rfl
  have zf : ∀ j, w1.frozen? ⟨w.heap.size, j, none⟩ = false := fun j => by simp [World.frozen?, R1]
  have HB : Hid (Below w.heap.size w w1) := ((Below.refl _ _).alloc (Nat.le_refl _) _).trans (hb1.mono (by simp))
  have hf1 := HF.out.1.below HB.out
  clear i0 i1 i2 kn
  have i0 := hf1.i0
  have kn := hf1.kn
  have s6 := HX.out.keep (HB.out.block gk HF.out.1.kl)
  have s0 := s6.c0
  have s1 := s6.c1
  have s2 := s6.c2
  have s3 := s6.c3
  have s4 := s6.c4
  have s5 := s6.c5
  have kf := hf1.kf
  have HF1 : Hid _ := And.intro hf1 s6
  have HZB : Hid (w.heap.size < w1.heap.size ∧ w1.heap[w.heap.size]? = some (.cells #[.bool false, .int .i64 0, .int .i64 0, .int .i64 0, .int .i64 0, .int .i64 0] 66)) := And.intro (by have := hb1.size; simp at this; omega) R1
  clear R1 hb1 hf1 s6
  dsimp only
  rw [ho] at s0
  have HO : Hid _ := ho
  clear ho
  go_wp2
  refine bodyPost_ret (v := .agg #[.bool true, .int .i64 x.k, .int .i64 x.a, .int .i64 x.b, .int .i64 x.s, .int .i64 x.d]) (by simp [results, Try.results29, go_sem, z0, z1, z2, z3, z4, z5]) rfl ?_
  refine ⟨?_, HF.out.1.below (below_set6 HB.out (Nat.le_refl _) _ _ _ _ _ _), Below.tcs (below_set6 HB.out (Nat.le_refl _) _ _ _ _ _ _)⟩
  unfold Dec.val
  rw [HO.out]


theorem Tcs.six (W : World) (g p : Nat) (u0 u1 u2 u3 u4 u5 : Value) : Tcs (fun k => k = g) W ((((((W.setCell ⟨g, p, none⟩ u0).setCell ⟨g, p + 1, none⟩ u1).setCell ⟨g, p + 2, none⟩ u2).setCell ⟨g, p + 3, none⟩ u3).setCell ⟨g, p + 4, none⟩ u4).setCell ⟨g, p + 5, none⟩ u5) :=
  ((((((Tcs.refl (fun k => k = g) W).setCell (p := ⟨g, p, none⟩) rfl u0).setCell (p := ⟨g, p + 1, none⟩) rfl u1).setCell (p := ⟨g, p + 2, none⟩) rfl u2).setCell (p := ⟨g, p + 3, none⟩) rfl u3).setCell (p := ⟨g, p + 4, none⟩) rfl u4).setCell (p := ⟨g, p + 5, none⟩) rfl u5
theorem Tcs.six0 (W : World) (g : Nat) (u0 u1 u2 u3 u4 u5 : Value) : Tcs (fun k => k = g) W ((((((W.setCell ⟨g, 0, none⟩ u0).setCell ⟨g, 1, none⟩ u1).setCell ⟨g, 2, none⟩ u2).setCell ⟨g, 3, none⟩ u3).setCell ⟨g, 4, none⟩ u4).setCell ⟨g, 5, none⟩ u5) :=
  ((((((Tcs.refl (fun k => k = g) W).setCell (p := ⟨g, 0, none⟩) rfl u0).setCell (p := ⟨g, 1, none⟩) rfl u1).setCell (p := ⟨g, 2, none⟩) rfl u2).setCell (p := ⟨g, 3, none⟩) rfl u3).setCell (p := ⟨g, 4, none⟩) rfl u4).setCell (p := ⟨g, 5, none⟩) rfl u5
theorem frozen_six (W : World) (g p j : Nat) (u0 u1 u2 u3 u4 u5 : Value) (h : ∀ j, W.frozen? ⟨g, j, none⟩ = false) : ((((((W.setCell ⟨g, p, none⟩ u0).setCell ⟨g, p + 1, none⟩ u1).setCell ⟨g, p + 2, none⟩ u2).setCell ⟨g, p + 3, none⟩ u3).setCell ⟨g, p + 4, none⟩ u4).setCell ⟨g, p + 5, none⟩ u5).frozen? ⟨g, j, none⟩ = false := by
  simp [h]
theorem cs_other (W : World) (g p q : Nat) (u : Value) (h : q ≠ p) : (W.setCell ⟨g, p, none⟩ u).cell? ⟨g, q, none⟩ = W.cell? ⟨g, q, none⟩ := World.cell?_setCell_other _ _ _ _ (by intro e; simp only [Addr.mk.injEq] at e; omega)
theorem cs_same {W : World} {g p : Nat} {u v : Value} (h : W.cell? ⟨g, p, none⟩ = some v) : (W.setCell ⟨g, p, none⟩ u).cell? ⟨g, p, none⟩ = some u := World.cell?_setCell_same _ _ _ h
theorem Ftc.put {W : World} {Fb gk : Nat} {a : Option Addr} {len cap : Nat} {d bd : Int} {codes : List Int} (h : Ftc W Fb gk a len cap d bd codes) (n : Nat) (hn : n < len) (x : Dec) (hx : x = Dec.no ∨ x = decOf (codes.getD n 0)) : Ftc ((((((W.setCell ⟨gk, n * 6, none⟩ (.bool x.o)).setCell ⟨gk, n * 6 + 1, none⟩ (.int .i64 x.k)).setCell ⟨gk, n * 6 + 2, none⟩ (.int .i64 x.a)).setCell ⟨gk, n * 6 + 3, none⟩ (.int .i64 x.b)).setCell ⟨gk, n * 6 + 4, none⟩ (.int .i64 x.s)).setCell ⟨gk, n * 6 + 5, none⟩ (.int .i64 x.d)) Fb gk a len cap d bd codes := by
  have T6 := Tcs.six W gk (n * 6) (.bool x.o) (.int .i64 x.k) (.int .i64 x.a) (.int .i64 x.b) (.int .i64 x.s) (.int .i64 x.d)
  have hb := T6.block Fb h.lt h.ne
  have k := fun j => World.cell?_of_block (w := W) (a := ⟨Fb, j, none⟩) hb
  refine ⟨Nat.lt_of_lt_of_le h.lt T6.size, (k _).trans h.i0, (k _).trans h.i1, (k _).trans h.i2, fun j hj => (k _).trans (h.tab j hj), (k _).trans h.kn, Nat.lt_of_lt_of_le h.kl T6.size, fun j => frozen_six W gk (n * 6) j _ _ _ _ _ _ h.kf, fun i hi => ?_, h.ne⟩
  obtain ⟨y, _, sy⟩ := h.ks n hn
  have s0 := sy.c0
  have s1 := sy.c1
  have s2 := sy.c2
  have s3 := sy.c3
  have s4 := sy.c4
  have s5 := sy.c5
  by_cases e : i = n
  · subst e
    refine ⟨x, hx, ?_⟩
    exact ⟨(by rw [cs_other _ _ _ _ _ (by omega), cs_other _ _ _ _ _ (by omega), cs_other _ _ _ _ _ (by omega), cs_other _ _ _ _ _ (by omega), cs_other _ _ _ _ _ (by omega)]; exact cs_same (s0)), (by rw [cs_other _ _ _ _ _ (by omega), cs_other _ _ _ _ _ (by omega), cs_other _ _ _ _ _ (by omega), cs_other _ _ _ _ _ (by omega)]; exact cs_same (by rw [cs_other _ _ _ _ _ (by omega)]; exact s1)), (by rw [cs_other _ _ _ _ _ (by omega), cs_other _ _ _ _ _ (by omega), cs_other _ _ _ _ _ (by omega)]; exact cs_same (by rw [cs_other _ _ _ _ _ (by omega), cs_other _ _ _ _ _ (by omega)]; exact s2)), (by rw [cs_other _ _ _ _ _ (by omega), cs_other _ _ _ _ _ (by omega)]; exact cs_same (by rw [cs_other _ _ _ _ _ (by omega), cs_other _ _ _ _ _ (by omega), cs_other _ _ _ _ _ (by omega)]; exact s3)), (by rw [cs_other _ _ _ _ _ (by omega)]; exact cs_same (by rw [cs_other _ _ _ _ _ (by omega), cs_other _ _ _ _ _ (by omega), cs_other _ _ _ _ _ (by omega), cs_other _ _ _ _ _ (by omega)]; exact s4)), (by exact cs_same (by rw [cs_other _ _ _ _ _ (by omega), cs_other _ _ _ _ _ (by omega), cs_other _ _ _ _ _ (by omega), cs_other _ _ _ _ _ (by omega), cs_other _ _ _ _ _ (by omega)]; exact s5))⟩
  · obtain ⟨z, hz, sz⟩ := h.ks i hi
    refine ⟨z, hz, ?_⟩
    have t0 := sz.c0
    have t1 := sz.c1
    have t2 := sz.c2
    have t3 := sz.c3
    have t4 := sz.c4
    have t5 := sz.c5
    exact ⟨(by rw [cs_other _ _ _ _ _ (by omega), cs_other _ _ _ _ _ (by omega), cs_other _ _ _ _ _ (by omega), cs_other _ _ _ _ _ (by omega), cs_other _ _ _ _ _ (by omega), cs_other _ _ _ _ _ (by omega)]; exact t0), (by rw [cs_other _ _ _ _ _ (by omega), cs_other _ _ _ _ _ (by omega), cs_other _ _ _ _ _ (by omega), cs_other _ _ _ _ _ (by omega), cs_other _ _ _ _ _ (by omega), cs_other _ _ _ _ _ (by omega)]; exact t1), (by rw [cs_other _ _ _ _ _ (by omega), cs_other _ _ _ _ _ (by omega), cs_other _ _ _ _ _ (by omega), cs_other _ _ _ _ _ (by omega), cs_other _ _ _ _ _ (by omega), cs_other _ _ _ _ _ (by omega)]; exact t2), (by rw [cs_other _ _ _ _ _ (by omega), cs_other _ _ _ _ _ (by omega), cs_other _ _ _ _ _ (by omega), cs_other _ _ _ _ _ (by omega), cs_other _ _ _ _ _ (by omega), cs_other _ _ _ _ _ (by omega)]; exact t3), (by rw [cs_other _ _ _ _ _ (by omega), cs_other _ _ _ _ _ (by omega), cs_other _ _ _ _ _ (by omega), cs_other _ _ _ _ _ (by omega), cs_other _ _ _ _ _ (by omega), cs_other _ _ _ _ _ (by omega)]; exact t4), (by rw [cs_other _ _ _ _ _ (by omega), cs_other _ _ _ _ _ (by omega), cs_other _ _ _ _ _ (by omega), cs_other _ _ _ _ _ (by omega), cs_other _ _ _ _ _ (by omega), cs_other _ _ _ _ _ (by omega)]; exact t5)⟩

end Go.Proofs.Ytabjcodpagjbjaa

namespace Go.Proofs.Ytabjcodpagjbjaa
open Go.RowKit
set_option linter.unusedVariables false
set_option linter.unusedSectionVars false
set_option linter.unusedSimpArgs false
variable [Inhabited Pick]

set_option maxRecDepth 8000 in
set_option maxHeartbeats 1000000 in
theorem fe_new (Fb gk : Nat) (a : Option Addr) (len cap : Nat) (d bd pc : Int) (codes : List Int) (w : World) (hf : Ftc w Fb gk a len cap d bd codes) (hco : CodesOk codes) (hll : len = codes.length) (hpc : 0 ≤ pc ∧ pc ≤ 4294967295) (n : Nat) (hn : n < len) (hp : pc = 4096 + 4 * (n : Int)) (x : Dec) (hx : Six w gk (n * 6) x) (ho : x.o = false) (hc : Lis .u32 w (.slice a len cap) codes) (hne : ∀ g ∈ blk (.slice a len cap), g ≠ gk) :
    Calls Try.prog 29 #[.pointer (some ⟨Fb, 0, none⟩), .int .u32 pc] w fun e w' => e = .returned ((decOf (codes.getD n 0)).val) ∧ Ftc w' Fb gk a len cap d bd codes ∧ Tcs (fun k => k = gk) w w' := by
  have A1 : Below w.heap.size w (w.alloc (.cells #[.bool false, .int .i64 0, .int .i64 0, .int .i64 0, .int .i64 0, .int .i64 0] 66)) := (Below.refl _ _).alloc (Nat.le_refl _) _
  have hfa := hf.below A1
  have i0 := hfa.i0
  have i1 := hfa.i1
  have i2 := hfa.i2
  have kn := hfa.kn
  have e1 : ¬ Fb = w.heap.size := by have := hf.lt; omega
  have e2 : ¬ gk = w.heap.size := by have := hf.kl; omega
  have hlI : (len : Int) ≤ 20000 := by have := hco.1; omega
  have HF : Hid _ := And.intro hf (And.intro hco (And.intro hll (And.intro hpc hfa)))
  have HX : Hid _ := hx
  obtain ⟨gm, om, cm, em, hRm, hbm⟩ := lis_some hc (by omega)
  simp only [Value.slice.injEq] at em
  obtain ⟨rfl, rfl, rfl⟩ := em
  have HM : Hid _ := hRm
  have hgmk : gm ≠ gk := hne gm (by rw [hbm]; simp)
  have hdec := decOf_ok (codes.getD n 0) (hco.2 n (by omega))
  generalize hDD : decOf (codes.getD n 0) = D at *
  have HDQ : Hid _ := hDD
  clear hDD
  generalize hcw : codes.getD n 0 = cwd at *
  have HCW : Hid _ := hcw
  clear hcw
  have HD : Hid (∀ W : World, Fb < W.heap.size → (∀ j, j < 35 → W.cell? ⟨Fb, 3 + j, none⟩ = tabA[j]?) → Calls Try.prog 59 #[.pointer (some ⟨Fb, 3, none⟩), .int .u32 cwd] W fun e w' => e = .returned (.agg #[.bool D.o, .int .i64 D.k, .int .i64 D.a, .int .i64 D.b, .int .i64 D.s, .int .i64 D.d]) ∧ Below W.heap.size W w') := fun W h1 h2 => hdec.2.2.1 Fb 3 W h1 h2
  have HWI : Hid (∀ W, _) := fun W => wi_yes (some ⟨gm, om, none⟩) codes.length cap n d bd pc W hlI (by omega) hp
  have hnI : (n : Int) < (codes.length : Int) := by omega
  have hnI0 : (0 : Int) ≤ (n : Int) := by omega
  clear hf hco hll hpc hp A1 hfa hx hc hRm hbm hdec hne
  go_enter Try.func29, Try.ntmps29
  go_wp2_with fail
  refine (HWI.out _).mono ?_
  rintro e w1 ⟨rfl, hb1⟩
  have R1 : w1.heap[w.heap.size]? = some (.cells #[.bool false, .int .i64 0, .int .i64 0, .int .i64 0, .int .i64 0, .int .i64 0] 66) := (hb1.block _ (by simp)).trans (heap_alloc_new w _)
  have z0 := cell_of R1 (j := 0) rfl
  have z1 := cell_of R1 (j := 1) rfl
  have z2 := cell_of R1 (j := 2) rfl
  have z3 := cell_of R1 (j := 3) rfl
  have z4 := cell_of R1 (j := 4) rfl
  have z5 := cell_of R1 (j := 5) rfl
  have zf : ∀ j, w1.frozen? ⟨w.heap.size, j, none⟩ = false := fun j => by simp [World.frozen?, R1]
  have HB : Hid (Below w.heap.size w w1) := ((Below.refl _ _).alloc (Nat.le_refl _) _).trans (hb1.mono (by simp))
  have hf1 := HF.out.1.below HB.out
  clear i0 i1 i2 kn
  have i0 := hf1.i0
  have kn := hf1.kn
  have s6 := HX.out.keep (HB.out.block gk HF.out.1.kl)
  have s0 := s6.c0
  have s1 := s6.c1
  have s2 := s6.c2
  have s3 := s6.c3
  have s4 := s6.c4
  have s5 := s6.c5
  have kf := hf1.kf
  have HF1 : Hid _ := And.intro hf1 s6
  have HZB : Hid (w.heap.size < w1.heap.size ∧ w1.heap[w.heap.size]? = some (.cells #[.bool false, .int .i64 0, .int .i64 0, .int .i64 0, .int .i64 0, .int .i64 0] 66)) := And.intro (by have := hb1.size; simp at this; omega) R1
  clear R1 hb1 hf1 s6
  dsimp only
  rw [ho] at s0
  have cw := (HM.out.below HB.out).cell n (by have := hn; omega)
  rw [HCW.out] at cw
  have HDQ2 : Hid (decOf (codes.getD n 0) = D) := by rw [HCW.out]; exact HDQ.out
  have eg1 : ¬ gm = gk := hgmk
  have eg2 : ¬ Fb = gk := HF.out.1.ne
  clear ho
  go_wp2_with fail
  have HDD : Hid (Calls Try.prog 59 #[.pointer (some ⟨Fb, 3, none⟩), .int .u32 cwd] w1.drew fun e w' => e = .returned (.agg #[.bool D.o, .int .i64 D.k, .int .i64 D.a, .int .i64 D.b, .int .i64 D.s, .int .i64 D.d]) ∧ Below w1.drew.heap.size w1.drew w') := HD.out w1.drew HF1.out.1.lt HF1.out.1.tab
  have HKF : Hid (∀ w2, Below w1.drew.heap.size w1.drew w2 → ∀ j, w2.frozen? ⟨gk, j, none⟩ = false) := fun w2 hb j => (HF1.out.1.below ((Below.refl w1.heap.size w1).drew |>.trans hb)).kf j
  clear HD kf zf z0 z1 z2 z3 z4 z5
  go_region_held3 (fun W => W.cell? ⟨Fb, 38, none⟩ = some (.slice (some ⟨gk, 0, none⟩) codes.length codes.length) ∧ W.cell? ⟨Fb, 0, none⟩ = some (.slice (some ⟨gm, om, none⟩) codes.length cap) ∧ W.cell? ⟨gm, om + n, none⟩ = some (.int .u32 cwd)) (go_simp)
    (first
    | (go_at_call 59; refine (HDD.out).mono ?_; rintro e w2 ⟨rfl, hb2⟩; have kn2 := later (W := w1.drew) hb2 kn; have i02 := later (W := w1.drew) hb2 i0; have cw2 := later (W := w1.drew) hb2 cw; have y0 := later (W := w1.drew) hb2 s0; have y1 := later (W := w1.drew) hb2 s1; have y2 := later (W := w1.drew) hb2 s2; have y3 := later (W := w1.drew) hb2 s3; have y4 := later (W := w1.drew) hb2 s4; have y5 := later (W := w1.drew) hb2 s5; have kf2 := HKF.out w2 hb2))
  have R2 : w2.heap[w.heap.size]? = _ := (hb2.block w.heap.size HZB.out.1).trans HZB.out.2
  have z0 := cell_of R2 (j := 0) rfl
  have z1 := cell_of R2 (j := 1) rfl
  have z2 := cell_of R2 (j := 2) rfl
  have z3 := cell_of R2 (j := 3) rfl
  have z4 := cell_of R2 (j := 4) rfl
  have z5 := cell_of R2 (j := 5) rfl
  have zf : ∀ j, w2.frozen? ⟨w.heap.size, j, none⟩ = false := fun j => by simp [World.frozen?, R2]
  have HB2 : Hid (Below w1.heap.size w1 w2) := (Below.refl w1.heap.size w1).drew |>.trans hb2
  clear R2 hb2
  go_wp2
  refine bodyPost_ret (v := .agg #[.bool D.o, .int .i64 D.k, .int .i64 D.a, .int .i64 D.b, .int .i64 D.s, .int .i64 D.d]) (by simp [results, Try.results29, go_sem, z0, z1, z2, z3, z4, z5]) rfl ?_
  have hf2 := (HF1.out.1.below HB2.out).put n hn D (.inr HDQ2.out.symm)
  have T6 := Tcs.six w2 gk (n * 6) (.bool D.o) (.int .i64 D.k) (.int .i64 D.a) (.int .i64 D.b) (.int .i64 D.s) (.int .i64 D.d)
  have TR := Tcs.six0 (((((((w2.setCell ⟨gk, n * 6, none⟩ (.bool D.o)).setCell ⟨gk, n * 6 + 1, none⟩ (.int .i64 D.k)).setCell ⟨gk, n * 6 + 2, none⟩ (.int .i64 D.a)).setCell ⟨gk, n * 6 + 3, none⟩ (.int .i64 D.b)).setCell ⟨gk, n * 6 + 4, none⟩ (.int .i64 D.s)).setCell ⟨gk, n * 6 + 5, none⟩ (.int .i64 D.d))) w.heap.size (.bool D.o) (.int .i64 D.k) (.int .i64 D.a) (.int .i64 D.b) (.int .i64 D.s) (.int .i64 D.d)
  refine ⟨rfl, hf2.tcs TR e1 e2, ?_⟩
  exact (((Below.tcs (S := fun k => k = gk) HB.out).trans (Below.tcs HB2.out)).trans T6).join TR (fun g hg => .inr (by omega))

end Go.Proofs.Ytabjcodpagjbjaa
