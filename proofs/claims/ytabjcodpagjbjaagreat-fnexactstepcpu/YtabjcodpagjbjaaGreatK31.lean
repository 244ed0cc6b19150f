import Derived.Test.YtabjcodpagjbjaaGreatK30
import Derived.Deep.RegionHeld3
import Derived.Deep.RegionLaw
import Derived.Deep.Cut
import Derived.Test.YtabjcodpagjbjaaGreatK21
import Derived.Test.YtabjcodpagjbjaaGreatK16
import Derived.Test.YtabjcodpagjbjaaGreatK15
namespace Go.Proofs.YtabjcodpagjbjaaGreat
open Go.RowKit
set_option linter.unusedVariables false
set_option linter.unusedSimpArgs false
set_option maxRecDepth 100000 in
set_option maxHeartbeats 2000000 in
theorem impl15 (v : Int) (o : Bool) (k a b c d : Int)
    (hD : ∀ (tb ot : Nat) (W : World), tb < W.heap.size → (∀ j, j < 35 → W.cell? ⟨tb, ot + j, none⟩ = tabA[j]?) →
      Calls Tryz.prog 51 #[.pointer (some ⟨tb, ot, none⟩), .int .u32 v] W fun e w' => e = .returned (.agg #[.bool o, .int .i64 k, .int .i64 a, .int .i64 b, .int .i64 c, .int .i64 d]) ∧ Below W.heap.size W w') (w : World) :
    Calls Tryz.prog 28 #[.int .u32 v] w fun e w' => e = .returned (.agg #[.bool o, .int .i64 k, .int .i64 a, .int .i64 b, .int .i64 c, .int .i64 d]) ∧ Below w.heap.size w w' := by
  have HD : Hid _ := hD
  clear hD
  go_enter Tryz.func28, Tryz.ntmps28
  go_wp2_with fail
  refine (opShapes_any _).mono ?_
  rintro e w1 ⟨rfl, hb1⟩
  simp only [World.size_alloc] at hb1
  have z1 := hb1.size
  simp only [World.size_alloc] at z1
  go_wp2_with (first
    | (go_at_call 51; refine (HD.out _ 0 _ hs2 (fun j hj => by rw [Nat.zero_add]; exact HT.out j hj)).mono ?_; rintro e w3 ⟨rfl, hb3⟩; have hb13 := hb12.trans (hb3.mono z2); obtain ⟨r3, f3⟩ := box6 hb13; have HB : Hid (Below w.heap.size w w3) := ((Below.refl _ _).alloc (Nat.le_refl _) _).trans (hb13.mono (Nat.le_succ _)); clear hb3 hb13 hb12)
    | (refine store_tab rfl _ _ rfl w1 rfl rfl rfl ?_; intro W2 hT hB2 hs2; have hb12 := hb1.trans (hB2.mono z1); have z2 : w.heap.size + 1 ≤ W2.heap.size := Nat.le_trans z1 (Nat.le_of_lt hs2); have HT : Hid _ := hT; clear hT hB2 hb1))
  refine bodyPost_ret (v := .agg #[.bool o, .int .i64 k, .int .i64 a, .int .i64 b, .int .i64 c, .int .i64 d]) (by simp [results, Tryz.results28, go_sem, r3, f3]) rfl ⟨rfl, ?_⟩
  exact (((((HB.out.setCell (by simp) _).setCell (by simp) _).setCell (by simp) _).setCell (by simp) _).setCell (by simp) _).setCell (by simp) _
def Hit (v : Int) (n : Nat) : Prop := ∃ rd s1 s2 im T cv fw fi, TryIs n v rd s1 s2 im v T cv fw fi
theorem first_hit (v : Int) : ∀ m : Nat, (∃ K, 1 ≤ K ∧ K ≤ m ∧ Hit v K ∧ ∀ n, 1 ≤ n → n < K → ¬ Hit v n) ∨ (∀ n, 1 ≤ n → n < m + 1 → ¬ Hit v n)
  | 0 => .inr fun n h1 h2 => by omega
  | m + 1 => by
    rcases first_hit v m with ⟨K, h1, h2, h3⟩ | h
    · exact .inl ⟨K, h1, by omega, h3⟩
    · by_cases c : Hit v (m + 1)
      · exact .inl ⟨m + 1, by omega, Nat.le_refl _, c, fun n a b => h n a b⟩
      · refine .inr fun n a b => ?_
        by_cases e : n = m + 1
        · subst e; exact c
        · exact h n a (by omega)
theorem miss_of (v : Int) (hv : 0 ≤ v ∧ v ≤ 4294967295) (n : Nat) (h1 : 1 ≤ n) (h2 : n < 35) (h : ¬ Hit v n) : ∃ rd s1 s2 im R T cv fw fi, (R == v) = false ∧ TryIs n v rd s1 s2 im R T cv fw fi := by
  obtain ⟨rd, s1, s2, im, R, T, cv, fw, fi, t⟩ := try_any n v (by omega) hv
  refine ⟨rd, s1, s2, im, R, T, cv, fw, fi, ?_, t⟩
  by_cases e : R = v
  · subst e; exact absurd ⟨rd, s1, s2, im, T, cv, fw, fi, t⟩ h
  · simpa using e
theorem look_of {v : Int} {n : Nat} {rd s1 s2 im R : Int} {T : TypeId} {cv : Value} {fw fi : Nat} (t : TryIs n v rd s1 s2 im R T cv fw fi) : LookIs n v rd s1 s2 im R :=
  ⟨T, cv, fw, fi, by simpa using t.1, t.2.1, t.2.2.1, t.2.2.2.1, t.2.2.2.2.1, t.2.2.2.2.2.2.2.2.1, t.2.2.2.2.2.2.2.2.2⟩
/-- What both programs say of a word, and what is known of it. -/
def DecIs (v : Int) (o : Bool) (k a b c d : Int) : Prop :=
    (∀ w : World, Calls Tryz.prog 43 #[.int .u32 v] w fun e w' => e = .returned (.agg #[.bool o, .int .i64 k, .int .i64 a, .int .i64 b, .int .i64 c, .int .i64 d]) ∧ Below w.heap.size w w') ∧
    (∀ w : World, Calls Tryz.prog 28 #[.int .u32 v] w fun e w' => e = .returned (.agg #[.bool o, .int .i64 k, .int .i64 a, .int .i64 b, .int .i64 c, .int .i64 d]) ∧ Below w.heap.size w w') ∧
    (∀ (tb ot : Nat) (W : World), tb < W.heap.size → (∀ j, j < 35 → W.cell? ⟨tb, ot + j, none⟩ = tabA[j]?) →
      Calls Tryz.prog 51 #[.pointer (some ⟨tb, ot, none⟩), .int .u32 v] W fun e w' => e = .returned (.agg #[.bool o, .int .i64 k, .int .i64 a, .int .i64 b, .int .i64 c, .int .i64 d]) ∧ Below W.heap.size W w') ∧
    (o = true → (1 ≤ k ∧ k ≤ 34) ∧ (0 ≤ a ∧ a < 32) ∧ (0 ≤ b ∧ b < 32) ∧ (0 ≤ c ∧ c < 32) ∧ (4 ≤ k ∧ k ≤ 9 → a = 0)) ∧
    (o = false → k = 0 ∧ a = 0 ∧ b = 0 ∧ c = 0 ∧ d = 0)
theorem dec_both (v : Int) (hv : 0 ≤ v ∧ v ≤ 4294967295) : ∃ (o : Bool) (k a b c d : Int), DecIs v o k a b c d := by
  rcases first_hit v 34 with ⟨K, h1, h2, ⟨a, b, c, d, T, cv, fw, fi, t⟩, hM⟩ | hM
  · have hI : ∀ (tb ot : Nat) (W : World), tb < W.heap.size → (∀ j, j < 35 → W.cell? ⟨tb, ot + j, none⟩ = tabA[j]?) → _ := fun tb ot W htb hT => implHit v hv tb ot K ⟨h1, h2⟩ a b c d (look_of t) (fun n n1 n2 => by
      obtain ⟨rd, s1, s2, im, R, T', cv', fw', fi', hR, t'⟩ := miss_of v hv n n1 (by omega) (hM n n1 n2)
      exact ⟨rd, s1, s2, im, R, hR, look_of t'⟩) W htb hT
    have hf := t.2.2.2.2.2.2.2.1
    refine ⟨true, K, a, b, c, d, fun w => ?_, fun w => impl15 v true K a b c d hI w, hI, fun _ => ⟨by omega, hf.2.2.1, hf.2.2.2.1, hf.2.2.2.2.1, hf.2.2.2.2.2⟩, fun h => by cases h⟩
    refine specHit v hv K ⟨h1, h2⟩ a b c d hf.2.1 ⟨t.2.2.2.2.2.1, t.2.2.2.2.2.2.1⟩ (fun n n1 n2 => ?_) w
    obtain ⟨rd, s1, s2, im, R, T', cv', fw', fi', hR, t'⟩ := miss_of v hv n n1 (by omega) (hM n n1 n2)
    exact ⟨rd, s1, s2, im, R, hR, t'.2.2.2.2.2.1, t'.2.2.2.2.2.2.1⟩
  · have hI : ∀ (tb ot : Nat) (W : World), tb < W.heap.size → (∀ j, j < 35 → W.cell? ⟨tb, ot + j, none⟩ = tabA[j]?) → _ := fun tb ot W htb hT => implMiss v hv tb ot (fun n n1 n2 => by
      obtain ⟨rd, s1, s2, im, R, T', cv', fw', fi', hR, t'⟩ := miss_of v hv n n1 n2 (hM n n1 (by omega))
      exact ⟨rd, s1, s2, im, R, hR, look_of t'⟩) W htb hT
    refine ⟨false, 0, 0, 0, 0, 0, fun w => ?_, fun w => impl15 v false 0 0 0 0 0 hI w, hI, fun h => (by cases h), fun _ => ⟨rfl, rfl, rfl, rfl, rfl⟩⟩
    refine specMiss v hv (fun n n1 n2 => ?_) w
    obtain ⟨rd, s1, s2, im, R, T', cv', fw', fi', hR, t'⟩ := miss_of v hv n n1 n2 (hM n n1 (by omega))
    exact ⟨rd, s1, s2, im, R, hR, t'.2.2.2.2.2.1, t'.2.2.2.2.2.2.1⟩
end Go.Proofs.YtabjcodpagjbjaaGreat

namespace Go.Proofs.YtabjcodpagjbjaaGreat
open Go.RowKit
set_option linter.unusedVariables false
set_option linter.unusedSimpArgs false

theorem Tcs.join {S T : Nat → Prop} {a w w' : World} (h : Tcs S a w) (k : Tcs T w w') (hT : ∀ g, T g → S g ∨ a.heap.size ≤ g) : Tcs S a w' :=
  ⟨k.os.trans h.os, k.tape.trans h.tape, k.output.trans h.output, Nat.le_trans h.size k.size, fun i hi hg => (k.block i (Nat.lt_of_lt_of_le hi h.size) (fun t => by rcases hT i t with h1 | h1; exact hg h1; omega)).trans (h.block i hi hg)⟩
theorem CpuV.low {w : World} {r p d s i o l t : Value} {L : List Nat} {c : Mc} (h : CpuV w (.agg #[r, p, d, s, i, o, l, t]) L c) (x : Int) : CpuV w (.agg #[r, p, d, s, i, o, .int .u32 x, t]) L { c with low := x } := by
  obtain ⟨r', d', s', i', o', hv, hr, hd, hs, hi, ho, hk, rfl, hnd⟩ := h
  simp only [Value.agg.injEq, Array.mk.injEq, List.cons.injEq, and_true] at hv
  obtain ⟨rfl, rfl, rfl, rfl, rfl, rfl, rfl, rfl⟩ := hv
  exact ⟨_, _, _, _, _, rfl, hr, hd, hs, hi, ho, hk, rfl, hnd⟩


set_option maxRecDepth 8000 in
set_option maxHeartbeats 1000000 in
theorem st_bad (ma : Option Addr) (mn mc' : Nat) (md mb : Int) (v : Value) (L : List Nat) (c : Mc) (w : World) (hG : Good c) (h : CpuV w v L c) (hst : c.st = 0) (n : Nat) (codes : List Int) (hc : Lis .u32 w (.slice ma mn mc') codes) (hcl : codes.length ≤ 20000) (hn : n < codes.length) (hp : c.pc = 4096 + 4 * (n : Int)) (k a b s d : Int) (hD : DecIs (codes.getD n 0) false k a b s d) :
    Calls Tryz.prog 19 #[.agg #[.slice ma mn mc', .int .i64 md, .int .i64 mb], v] w fun e w' => ∃ u, e = .returned u ∧ ∃ L', CpuV w' u L' { c with st := 2 } ∧ (∀ x ∈ L', x ∈ L ∨ w.heap.size ≤ x) ∧ Tcs (fun g => g ∈ L) w w' := by
  obtain ⟨g, off, y1, n2, n3, n4, n5, x2, y2, x3, y3, x4, y4, x5, y5, rfl, hbk⟩ := h.shape32 hG.r32
  have A4 : Below w.heap.size w (((w.alloc (.cells #[.slice ma mn mc', .int .i64 md, .int .i64 mb] 34)).alloc (.cells #[.slice (some ⟨g, off, none⟩) 32 y1, .int .u32 c.pc, .slice x2 n2 y2, .slice x3 n3 y3, .slice x4 n4 y4, .slice x5 n5 y5, .int .u32 c.low, .int .i64 c.st] 32)).alloc (.cells #[.slice none 0 0, .int .u32 0, .slice none 0 0, .slice none 0 0, .slice none 0 0, .slice none 0 0, .int .u32 0, .int .i64 0] 32)) := (((Below.refl _ _).alloc (Nat.le_refl _) _).alloc (by simp) _).alloc (by simp; omega) _
  have hCb : (((w.alloc (.cells #[.slice ma mn mc', .int .i64 md, .int .i64 mb] 34)).alloc (.cells #[.slice (some ⟨g, off, none⟩) 32 y1, .int .u32 c.pc, .slice x2 n2 y2, .slice x3 n3 y3, .slice x4 n4 y4, .slice x5 n5 y5, .int .u32 c.low, .int .i64 c.st] 32)).alloc (.cells #[.slice none 0 0, .int .u32 0, .slice none 0 0, .slice none 0 0, .slice none 0 0, .slice none 0 0, .int .u32 0, .int .i64 0] 32)).heap[w.heap.size + 1]? = some (.cells #[.slice (some ⟨g, off, none⟩) 32 y1, .int .u32 c.pc, .slice x2 n2 y2, .slice x3 n3 y3, .slice x4 n4 y4, .slice x5 n5 y5, .int .u32 c.low, .int .i64 c.st] 32) := by
    rw [Below.heap_alloc _ _ _ (by simp)]
    have := heap_alloc_new (w.alloc (.cells #[.slice ma mn mc', .int .i64 md, .int .i64 mb] 34)) (.cells #[.slice (some ⟨g, off, none⟩) 32 y1, .int .u32 c.pc, .slice x2 n2 y2, .slice x3 n3 y3, .slice x4 n4 y4, .slice x5 n5 y5, .int .u32 c.low, .int .i64 c.st] 32)
    simpa only [World.size_alloc] using this
  have hgw : g < w.heap.size := h.lt g hbk
  have e1 : ¬ g = w.heap.size := by omega
  have e2 : ¬ g = w.heap.size + 1 := by omega
  have e3 : ¬ g = w.heap.size + 1 + 1 := by omega
  have hpc := hG.pcu
  have hs0 : (c.st != 0) = false := by rw [hst]; rfl
  have HST : Hid (c.st = 0) := hst
  clear hst
  obtain ⟨gm, om, cm, em, hRm, hbm⟩ := lis_some hc (by omega)
  simp only [Value.slice.injEq] at em
  obtain ⟨rfl, rfl, rfl⟩ := em
  have hgm := hRm.lt
  have cw := (hRm.keep A4.size (A4.block gm hRm.lt)).cell n hn
  have hq : ¬ c.pc - 4096 < 0 := by omega
  have hq4 : Int.tmod (c.pc - 4096) 4 = 0 := by rw [Int.tmod_eq_emod_of_nonneg (by omega)]; omega
  have hqd : Int.tdiv (c.pc - 4096) 4 = (n : Int) := by rw [Int.tdiv_eq_ediv_of_nonneg (by omega)]; omega
  have hqn : (n : Int) < (codes.length : Int) := by omega
  have hqn0 : (0 : Int) ≤ (n : Int) := by omega
  have hcl2 : (codes.length : Int) ≤ 20000 := by omega
  have hw64 : wrap64 (n : Int) = (n : Int) := by unfold wrap64; omega
  clear hcl
  have HP : Hid _ := hp
  clear hRm hbm hc hp
  generalize hcw : codes.getD n 0 = cwd at *
  have HD : Hid (∀ W : World, _) := hD.1
  clear hD
  have HX : Hid _ := And.intro h (And.intro A4 (Bx.of_heap hCb))
  clear h A4 hCb hbk
  go_enter Tryz.func19, Tryz.ntmps19
  go_wp2_with fail
  refine (HD.out _).mono ?_
  rintro e w1 ⟨rfl, hb1⟩
  have BEL : Below w.heap.size w (w1.alloc (.cells #[.bool false, .int .i64 k, .int .i64 a, .int .i64 b, .int .i64 s, .int .i64 d] 54)) := (HX.out.2.1.trans (hb1.mono (by simp; omega))).alloc (by have := hb1.size; simp at this; omega) _
  have R0 := (by have := heap_alloc_new ((w.alloc (.cells #[.slice (some ⟨gm, om, none⟩) codes.length mc', .int .i64 md, .int .i64 mb] 34)).alloc (.cells #[.slice (some ⟨g, off, none⟩) 32 y1, .int .u32 c.pc, .slice x2 n2 y2, .slice x3 n3 y3, .slice x4 n4 y4, .slice x5 n5 y5, .int .u32 c.low, .int .i64 c.st] 32)) (.cells #[.slice none 0 0, .int .u32 0, .slice none 0 0, .slice none 0 0, .slice none 0 0, .slice none 0 0, .int .u32 0, .int .i64 0] 32); simpa only [World.size_alloc] using this : (((w.alloc (.cells #[.slice (some ⟨gm, om, none⟩) codes.length mc', .int .i64 md, .int .i64 mb] 34)).alloc (.cells #[.slice (some ⟨g, off, none⟩) 32 y1, .int .u32 c.pc, .slice x2 n2 y2, .slice x3 n3 y3, .slice x4 n4 y4, .slice x5 n5 y5, .int .u32 c.low, .int .i64 c.st] 32)).alloc (.cells #[.slice none 0 0, .int .u32 0, .slice none 0 0, .slice none 0 0, .slice none 0 0, .slice none 0 0, .int .u32 0, .int .i64 0] 32)).heap[w.heap.size + 1 + 1]? = _)
  have R1 : (w1.alloc (.cells #[.bool false, .int .i64 k, .int .i64 a, .int .i64 b, .int .i64 s, .int .i64 d] 54)).heap[w.heap.size + 1 + 1]? = _ := (Below.heap_alloc w1 _ _ (by have := hb1.size; simp at this; omega)).trans ((hb1.block _ (by simp)).trans R0)
  have zz := hb1.size
  simp only [World.size_alloc] at zz
  have hBW := HX.out.2.2.below hb1
  have C1 : Bx (w1.alloc (.cells #[.bool false, .int .i64 k, .int .i64 a, .int .i64 b, .int .i64 s, .int .i64 d] 54)) (w.heap.size + 1) _ _ _ _ _ _ _ _ := hBW.below ((Below.refl w1.heap.size w1).alloc (Nat.le_refl _) _)
  have HR1 : Hid _ := And.intro R1 (And.intro C1 BEL)
  clear R0 R1 BEL hb1 hBW cw C1
  go_upto_region 7 with fail
  obtain ⟨W, hW⟩ : ∃ W, W = w1.alloc (.cells #[.bool false, .int .i64 k, .int .i64 a, .int .i64 b, .int .i64 s, .int .i64 d] 54) := ⟨_, rfl⟩
  rw [← hW]
  have X1 : W.heap[w1.heap.size]? = some (.cells #[.bool false, .int .i64 k, .int .i64 a, .int .i64 b, .int .i64 s, .int .i64 d] 54) := by rw [hW]; exact heap_alloc_new w1 _
  have xx0 := cell_of X1 (j := 0) rfl
  have xx1 := cell_of X1 (j := 1) rfl
  have xx2 := cell_of X1 (j := 2) rfl
  have xx3 := cell_of X1 (j := 3) rfl
  have xx4 := cell_of X1 (j := 4) rfl
  have xx5 := cell_of X1 (j := 5) rfl
  rw [← hW] at HR1
  obtain ⟨t0, t1, t2, t3, t4, t5, t6, t7, tf⟩ := id HR1.out.2.1
  clear X1 hW
  go_wp2_with fail
  refine (fault_any _ L c _ (HX.out.1.below HR1.out.2.2)).mono ?_
  rintro e w1 ⟨u1, rfl, cv1, hb1⟩
  obtain ⟨m1, m2, m3, m4, m5, a1, b1, a2, b2, a3, b3, a4, b4, a5, b5, rfl⟩ := cv1.shape
  have RB := (Bx.of_heap HR1.out.1).below hb1
  obtain ⟨z0, z1, z2, z3, z4, z5, z6, z7, zf⟩ := id RB
  have HV : Hid _ := And.intro cv1 (And.intro hb1 (And.intro HX.out.1.lt HR1.out.2.2))
  clear cv1 hb1 RB HX
  dsimp only
  go_wp2
  refine bodyPost_ret (v := .agg #[.slice a1 m1 b1, .int .u32 c.pc, .slice a2 m2 b2, .slice a3 m3 b3, .slice a4 m4 b4, .slice a5 m5 b5, .int .u32 c.low, .int .i64 2]) (by simp [results, Tryz.results19, go_sem, z0, z1, z2, z3, z4, z5, z6, z7]) rfl ?_
  obtain ⟨cv1, hb1, hl, A4⟩ := HV.out
  refine ⟨_, rfl, L, cv1.tcs ((Tcs.refl (fun k => k = w.heap.size + 1 + 1) w1).set8 _ rfl _ _ _ _ _ _ _ _) (fun g hg e => by have := hl g hg; omega), fun x hx => .inl hx, ?_⟩
  exact ((Below.tcs (S := fun x => x ∈ L) A4).of_below hb1).new8 _ (by omega) _ _ _ _ _ _ _ _


set_option maxRecDepth 8000 in
set_option maxHeartbeats 1000000 in
theorem st_do2 (ma : Option Addr) (mn mc' : Nat) (md mb : Int) (v : Value) (L : List Nat) (c : Mc) (w : World) (hG : Good c) (h : CpuV w v L c) (hst : c.st = 0) (n : Nat) (codes : List Int) (hc : Lis .u32 w (.slice ma mn mc') codes) (hcl : codes.length ≤ 20000) (hn : n < codes.length) (hp : c.pc = 4096 + 4 * (n : Int)) (k a b s d : Int) (hD : DecIs (codes.getD n 0) true k a b s d) (c2 : Mc) (h32 : c2.regs.length = 32)
    (hDo : ∀ w1, CpuV w1 v L c → Calls Tryz.prog 44 #[.agg #[.slice ma mn mc', .int .i64 md, .int .i64 mb], v, .agg #[.int .i64 k, .int .i64 a, .int .i64 b, .int .i64 s, .int .i64 d]] w1 fun e w' => ∃ u, e = .returned u ∧ ∃ L', CpuV w' u L' c2 ∧ (∀ x ∈ L', x ∈ L ∨ w1.heap.size ≤ x) ∧ Tcs (fun g => g ∈ L) w1 w')
    (hc2 : c2.st = 2) :
    Calls Tryz.prog 19 #[.agg #[.slice ma mn mc', .int .i64 md, .int .i64 mb], v] w fun e w' => ∃ u, e = .returned u ∧ ∃ L', CpuV w' u L' c2 ∧ (∀ x ∈ L', x ∈ L ∨ w.heap.size ≤ x) ∧ Tcs (fun g => g ∈ L) w w' := by
  obtain ⟨g, off, y1, n2, n3, n4, n5, x2, y2, x3, y3, x4, y4, x5, y5, rfl, hbk⟩ := h.shape32 hG.r32
  have A4 : Below w.heap.size w (((w.alloc (.cells #[.slice ma mn mc', .int .i64 md, .int .i64 mb] 34)).alloc (.cells #[.slice (some ⟨g, off, none⟩) 32 y1, .int .u32 c.pc, .slice x2 n2 y2, .slice x3 n3 y3, .slice x4 n4 y4, .slice x5 n5 y5, .int .u32 c.low, .int .i64 c.st] 32)).alloc (.cells #[.slice none 0 0, .int .u32 0, .slice none 0 0, .slice none 0 0, .slice none 0 0, .slice none 0 0, .int .u32 0, .int .i64 0] 32)) := (((Below.refl _ _).alloc (Nat.le_refl _) _).alloc (by simp) _).alloc (by simp; omega) _
  have hCb : (((w.alloc (.cells #[.slice ma mn mc', .int .i64 md, .int .i64 mb] 34)).alloc (.cells #[.slice (some ⟨g, off, none⟩) 32 y1, .int .u32 c.pc, .slice x2 n2 y2, .slice x3 n3 y3, .slice x4 n4 y4, .slice x5 n5 y5, .int .u32 c.low, .int .i64 c.st] 32)).alloc (.cells #[.slice none 0 0, .int .u32 0, .slice none 0 0, .slice none 0 0, .slice none 0 0, .slice none 0 0, .int .u32 0, .int .i64 0] 32)).heap[w.heap.size + 1]? = some (.cells #[.slice (some ⟨g, off, none⟩) 32 y1, .int .u32 c.pc, .slice x2 n2 y2, .slice x3 n3 y3, .slice x4 n4 y4, .slice x5 n5 y5, .int .u32 c.low, .int .i64 c.st] 32) := by
    rw [Below.heap_alloc _ _ _ (by simp)]
    have := heap_alloc_new (w.alloc (.cells #[.slice ma mn mc', .int .i64 md, .int .i64 mb] 34)) (.cells #[.slice (some ⟨g, off, none⟩) 32 y1, .int .u32 c.pc, .slice x2 n2 y2, .slice x3 n3 y3, .slice x4 n4 y4, .slice x5 n5 y5, .int .u32 c.low, .int .i64 c.st] 32)
    simpa only [World.size_alloc] using this
  have hgw : g < w.heap.size := h.lt g hbk
  have e1 : ¬ g = w.heap.size := by omega
  have e2 : ¬ g = w.heap.size + 1 := by omega
  have e3 : ¬ g = w.heap.size + 1 + 1 := by omega
  have hpc := hG.pcu
  have hs0 : (c.st != 0) = false := by rw [hst]; rfl
  have HST : Hid (c.st = 0) := hst
  clear hst
  obtain ⟨gm, om, cm, em, hRm, hbm⟩ := lis_some hc (by omega)
  simp only [Value.slice.injEq] at em
  obtain ⟨rfl, rfl, rfl⟩ := em
  have hgm := hRm.lt
  have cw := (hRm.keep A4.size (A4.block gm hRm.lt)).cell n hn
  have hq : ¬ c.pc - 4096 < 0 := by omega
  have hq4 : Int.tmod (c.pc - 4096) 4 = 0 := by rw [Int.tmod_eq_emod_of_nonneg (by omega)]; omega
  have hqd : Int.tdiv (c.pc - 4096) 4 = (n : Int) := by rw [Int.tdiv_eq_ediv_of_nonneg (by omega)]; omega
  have hqn : (n : Int) < (codes.length : Int) := by omega
  have hqn0 : (0 : Int) ≤ (n : Int) := by omega
  have hcl2 : (codes.length : Int) ≤ 20000 := by omega
  have hw64 : wrap64 (n : Int) = (n : Int) := by unfold wrap64; omega
  clear hcl
  have HP : Hid _ := hp
  clear hRm hbm hc hp
  generalize hcw : codes.getD n 0 = cwd at *
  have HD : Hid (∀ W : World, _) := hD.1
  have HDO : Hid (∀ w1, CpuV w1 _ L c → _) := hDo
  have H32 : Hid (c2.regs.length = 32) := h32
  have HC : Hid _ := hc2
  clear hD hDo h32 hc2
  have HX : Hid _ := And.intro h (And.intro A4 (Bx.of_heap hCb))
  clear h A4 hCb hbk
  go_enter Tryz.func19, Tryz.ntmps19
  go_wp2_with fail
  refine (HD.out _).mono ?_
  rintro e w1 ⟨rfl, hb1⟩
  have zz := hb1.size
  simp only [World.size_alloc] at zz
  have BEL : Below w.heap.size w (w1.alloc (.cells #[.bool true, .int .i64 k, .int .i64 a, .int .i64 b, .int .i64 s, .int .i64 d] 54)) := (HX.out.2.1.trans (hb1.mono (by simp; omega))).alloc (by omega) _
  have R0 := (by have := heap_alloc_new ((w.alloc (.cells #[.slice (some ⟨gm, om, none⟩) codes.length mc', .int .i64 md, .int .i64 mb] 34)).alloc (.cells #[.slice (some ⟨g, off, none⟩) 32 y1, .int .u32 c.pc, .slice x2 n2 y2, .slice x3 n3 y3, .slice x4 n4 y4, .slice x5 n5 y5, .int .u32 c.low, .int .i64 c.st] 32)) (.cells #[.slice none 0 0, .int .u32 0, .slice none 0 0, .slice none 0 0, .slice none 0 0, .slice none 0 0, .int .u32 0, .int .i64 0] 32); simpa only [World.size_alloc] using this : (((w.alloc (.cells #[.slice (some ⟨gm, om, none⟩) codes.length mc', .int .i64 md, .int .i64 mb] 34)).alloc (.cells #[.slice (some ⟨g, off, none⟩) 32 y1, .int .u32 c.pc, .slice x2 n2 y2, .slice x3 n3 y3, .slice x4 n4 y4, .slice x5 n5 y5, .int .u32 c.low, .int .i64 c.st] 32)).alloc (.cells #[.slice none 0 0, .int .u32 0, .slice none 0 0, .slice none 0 0, .slice none 0 0, .slice none 0 0, .int .u32 0, .int .i64 0] 32)).heap[w.heap.size + 1 + 1]? = _)
  have R1 : (w1.alloc (.cells #[.bool true, .int .i64 k, .int .i64 a, .int .i64 b, .int .i64 s, .int .i64 d] 54)).heap[w.heap.size + 1 + 1]? = _ := (Below.heap_alloc w1 _ _ (by omega)).trans ((hb1.block _ (by simp)).trans R0)
  have hBW := HX.out.2.2.below hb1
  have C1 : Bx (w1.alloc (.cells #[.bool true, .int .i64 k, .int .i64 a, .int .i64 b, .int .i64 s, .int .i64 d] 54)) (w.heap.size + 1) _ _ _ _ _ _ _ _ := hBW.below ((Below.refl w1.heap.size w1).alloc (Nat.le_refl _) _)
  have M1 : w1.heap[w.heap.size]? = some (.cells #[.slice (some ⟨gm, om, none⟩) codes.length mc', .int .i64 md, .int .i64 mb] 34) := by
    rw [hb1.block _ (by simp; omega), Below.heap_alloc _ _ _ (by simp; omega), Below.heap_alloc _ _ _ (by simp)]
    exact heap_alloc_new _ _
  have M2 : (w1.alloc (.cells #[.bool true, .int .i64 k, .int .i64 a, .int .i64 b, .int .i64 s, .int .i64 d] 54)).heap[w.heap.size]? = some (.cells #[.slice (some ⟨gm, om, none⟩) codes.length mc', .int .i64 md, .int .i64 mb] 34) := (Below.heap_alloc w1 _ _ (by omega)).trans M1
  have HR1 : Hid _ := And.intro R1 (And.intro C1 BEL)
  clear R0 R1 BEL hb1 hBW C1 M1 cw
  go_upto_region 7 with fail
  obtain ⟨W, hW⟩ : ∃ W, W = w1.alloc (.cells #[.bool true, .int .i64 k, .int .i64 a, .int .i64 b, .int .i64 s, .int .i64 d] 54) := ⟨_, rfl⟩
  rw [← hW]
  have X1 : W.heap[w1.heap.size]? = some (.cells #[.bool true, .int .i64 k, .int .i64 a, .int .i64 b, .int .i64 s, .int .i64 d] 54) := by rw [hW]; exact heap_alloc_new w1 _
  have xx0 := cell_of X1 (j := 0) rfl
  have xx1 := cell_of X1 (j := 1) rfl
  have xx2 := cell_of X1 (j := 2) rfl
  have xx3 := cell_of X1 (j := 3) rfl
  have xx4 := cell_of X1 (j := 4) rfl
  have xx5 := cell_of X1 (j := 5) rfl
  rw [← hW] at HR1
  rw [← hW] at M2
  have mm0 := cell_of M2 (j := 0) rfl
  have mm1 := cell_of M2 (j := 1) rfl
  have mm2 := cell_of M2 (j := 2) rfl
  obtain ⟨t0, t1, t2, t3, t4, t5, t6, t7, tf⟩ := id HR1.out.2.1
  have zW : W.heap.size = w1.heap.size + 1 := by rw [hW]; simp
  clear X1 hW M2
  go_wp2_with fail
  refine (HDO.out _ (HX.out.1.below HR1.out.2.2)).mono ?_
  rintro e w2 ⟨u2, rfl, L', cv2, hm2, ht2⟩
  obtain ⟨g2, o2, q1, m2, m3, m4, m5, p2, q2, p3, q3, p4, q4, p5, q5, rfl, hbk2⟩ := cv2.shape32 H32.out
  have hlt := HX.out.1.lt
  have CB2 := HR1.out.2.1.keep (ht2.block (w.heap.size + 1) (by omega) (fun e => by have := hlt _ e; omega))
  have RB2 := (Bx.of_heap HR1.out.1).keep (ht2.block (w.heap.size + 1 + 1) (by omega) (fun e => by have := hlt _ e; omega))
  obtain ⟨z0, z1, z2, z3, z4, z5, z6, z7, zf⟩ := id RB2
  clear t0 t1 t2 t3 t4 t5 t6 t7 tf
  obtain ⟨t0, t1, t2, t3, t4, t5, t6, t7, tf⟩ := id CB2
  have rr2 := (reg_cell cv2 H32.out (k := 2) (by omega)).1
  have hg2 : g2 < w.heap.size ∨ w.heap.size + 1 + 1 + 1 ≤ g2 := by
    rcases hm2 g2 hbk2 with h | h
    · exact .inl (hlt _ h)
    · exact .inr (by omega)
  have k1 : ¬ g2 = w.heap.size + 1 := by omega
  have k2 : ¬ g2 = w.heap.size + 1 + 1 := by omega
  have HV : Hid _ := And.intro cv2 (And.intro hm2 (And.intro ht2 (And.intro hlt HR1.out.2.2)))
  have HB : Hid _ := And.intro CB2 RB2
  clear cv2 hm2 ht2 CB2 RB2 HX HR1 hlt hbk2 mm0 mm1 mm2 xx0 xx1 xx2 xx3 xx4 xx5 HDO HD
  generalize hr2 : c2.regs.getD 2 0 = r2 at *
  have hs2 : (c2.st != 2) = false := by rw [HC.out]; rfl
  dsimp only
  go_wp2_with fail
  by_cases hA : r2 < c2.low
  · skip
    go_quiet (fail)
    go_upto_region 12 with fail
    obtain ⟨W9, hW9⟩ : ∃ W9, W9 = (((((((((w2.setCell ⟨w.heap.size + 1, 0, none⟩ (.slice (some ⟨g2, o2, none⟩) 32 q1)).setCell ⟨w.heap.size + 1, 1, none⟩ (.int .u32 c2.pc)).setCell ⟨w.heap.size + 1, 2, none⟩ (.slice p2 m2 q2)).setCell ⟨w.heap.size + 1, 3, none⟩ (.slice p3 m3 q3)).setCell ⟨w.heap.size + 1, 4, none⟩ (.slice p4 m4 q4)).setCell ⟨w.heap.size + 1, 5, none⟩ (.slice p5 m5 q5)).setCell ⟨w.heap.size + 1, 6, none⟩ (.int .u32 c2.low)).setCell ⟨w.heap.size + 1, 7, none⟩ (.int .i64 c2.st))).drewN nq := ⟨_, rfl⟩
    rw [← hW9]
    have TC : Tcs (fun k => k = w.heap.size + 1) w2 W9 := by
      rw [hW9]
      exact (((Tcs.refl (fun k => k = w.heap.size + 1) w2).set8 _ rfl (.slice (some ⟨g2, o2, none⟩) 32 q1) (.int .u32 c2.pc) (.slice p2 m2 q2) (.slice p3 m3 q3) (.slice p4 m4 q4) (.slice p5 m5 q5) (.int .u32 c2.low) (.int .i64 c2.st)).drewN nq)
    have B9 : Bx W9 (w.heap.size + 1) (.slice (some ⟨g2, o2, none⟩) 32 q1) (.int .u32 c2.pc) (.slice p2 m2 q2) (.slice p3 m3 q3) (.slice p4 m4 q4) (.slice p5 m5 q5) (.int .u32 c2.low) (.int .i64 c2.st) := by
      rw [hW9]
      exact ((HB.out.1.set8 (.slice (some ⟨g2, o2, none⟩) 32 q1) (.int .u32 c2.pc) (.slice p2 m2 q2) (.slice p3 m3 q3) (.slice p4 m4 q4) (.slice p5 m5 q5) (.int .u32 c2.low) (.int .i64 c2.st)).drewN nq)
    have R9 := HB.out.2.keep (TC.block (w.heap.size + 1 + 1) HB.out.2.lt (by omega))
    clear z0 z1 z2 z3 z4 z5 z6 z7 zf t0 t1 t2 t3 t4 t5 t6 t7 tf rr2
    obtain ⟨z0, z1, z2, z3, z4, z5, z6, z7, zf⟩ := id R9
    obtain ⟨t0, t1, t2, t3, t4, t5, t6, t7, tf⟩ := id B9
    have HT : Hid _ := TC
    clear hW9 TC B9 R9
    go_wp2
    refine bodyPost_ret (v := .agg #[.slice (some ⟨g2, o2, none⟩) 32 q1, .int .u32 c2.pc, .slice p2 m2 q2, .slice p3 m3 q3, .slice p4 m4 q4, .slice p5 m5 q5, .int .u32 c2.low, .int .i64 c2.st]) (by simp [results, Tryz.results19, go_sem, z0, z1, z2, z3, z4, z5, z6, z7]) rfl ?_
    obtain ⟨cv2, hm2, ht2, hlt, BEL⟩ := HV.out
    have TR := (HT.out.mono (T := fun k => k = w.heap.size + 1 ∨ k = w.heap.size + 1 + 1) (fun k hk => .inl hk)).set8 (w.heap.size + 1 + 1) (.inr rfl) (.slice (some ⟨g2, o2, none⟩) 32 q1) (.int .u32 c2.pc) (.slice p2 m2 q2) (.slice p3 m3 q3) (.slice p4 m4 q4) (.slice p5 m5 q5) (.int .u32 c2.low) (.int .i64 c2.st)
    have k3 := cv2.tcs TR (fun g hg hx => by
      rcases hm2 g hg with h | h
      · have := hlt _ h
        omega
      · omega)
    refine ⟨_, rfl, L', k3, fun x hx => ?_, ?_⟩
    · rcases hm2 x hx with h | h
      · exact .inl h
      · exact .inr (by omega)
    · exact ((Below.tcs (S := fun x => x ∈ L) BEL).trans ht2).join TR (fun k hk => .inr (by omega))
  · skip
    go_quiet (fail)
    go_upto_region 12 with fail
    obtain ⟨W9, hW9⟩ : ∃ W9, W9 = (((((((((w2.setCell ⟨w.heap.size + 1, 0, none⟩ (.slice (some ⟨g2, o2, none⟩) 32 q1)).setCell ⟨w.heap.size + 1, 1, none⟩ (.int .u32 c2.pc)).setCell ⟨w.heap.size + 1, 2, none⟩ (.slice p2 m2 q2)).setCell ⟨w.heap.size + 1, 3, none⟩ (.slice p3 m3 q3)).setCell ⟨w.heap.size + 1, 4, none⟩ (.slice p4 m4 q4)).setCell ⟨w.heap.size + 1, 5, none⟩ (.slice p5 m5 q5)).setCell ⟨w.heap.size + 1, 6, none⟩ (.int .u32 c2.low)).setCell ⟨w.heap.size + 1, 7, none⟩ (.int .i64 c2.st))).drewN nq := ⟨_, rfl⟩
    rw [← hW9]
    have TC : Tcs (fun k => k = w.heap.size + 1) w2 W9 := by
      rw [hW9]
      exact (((Tcs.refl (fun k => k = w.heap.size + 1) w2).set8 _ rfl (.slice (some ⟨g2, o2, none⟩) 32 q1) (.int .u32 c2.pc) (.slice p2 m2 q2) (.slice p3 m3 q3) (.slice p4 m4 q4) (.slice p5 m5 q5) (.int .u32 c2.low) (.int .i64 c2.st)).drewN nq)
    have B9 : Bx W9 (w.heap.size + 1) (.slice (some ⟨g2, o2, none⟩) 32 q1) (.int .u32 c2.pc) (.slice p2 m2 q2) (.slice p3 m3 q3) (.slice p4 m4 q4) (.slice p5 m5 q5) (.int .u32 c2.low) (.int .i64 c2.st) := by
      rw [hW9]
      exact ((HB.out.1.set8 (.slice (some ⟨g2, o2, none⟩) 32 q1) (.int .u32 c2.pc) (.slice p2 m2 q2) (.slice p3 m3 q3) (.slice p4 m4 q4) (.slice p5 m5 q5) (.int .u32 c2.low) (.int .i64 c2.st)).drewN nq)
    have R9 := HB.out.2.keep (TC.block (w.heap.size + 1 + 1) HB.out.2.lt (by omega))
    clear z0 z1 z2 z3 z4 z5 z6 z7 zf t0 t1 t2 t3 t4 t5 t6 t7 tf rr2
    obtain ⟨z0, z1, z2, z3, z4, z5, z6, z7, zf⟩ := id R9
    obtain ⟨t0, t1, t2, t3, t4, t5, t6, t7, tf⟩ := id B9
    have HT : Hid _ := TC
    clear hW9 TC B9 R9
    go_wp2
    refine bodyPost_ret (v := .agg #[.slice (some ⟨g2, o2, none⟩) 32 q1, .int .u32 c2.pc, .slice p2 m2 q2, .slice p3 m3 q3, .slice p4 m4 q4, .slice p5 m5 q5, .int .u32 c2.low, .int .i64 c2.st]) (by simp [results, Tryz.results19, go_sem, z0, z1, z2, z3, z4, z5, z6, z7]) rfl ?_
    obtain ⟨cv2, hm2, ht2, hlt, BEL⟩ := HV.out
    have TR := (HT.out.mono (T := fun k => k = w.heap.size + 1 ∨ k = w.heap.size + 1 + 1) (fun k hk => .inl hk)).set8 (w.heap.size + 1 + 1) (.inr rfl) (.slice (some ⟨g2, o2, none⟩) 32 q1) (.int .u32 c2.pc) (.slice p2 m2 q2) (.slice p3 m3 q3) (.slice p4 m4 q4) (.slice p5 m5 q5) (.int .u32 c2.low) (.int .i64 c2.st)
    have k3 := cv2.tcs TR (fun g hg hx => by
      rcases hm2 g hg with h | h
      · have := hlt _ h
        omega
      · omega)
    refine ⟨_, rfl, L', k3, fun x hx => ?_, ?_⟩
    · rcases hm2 x hx with h | h
      · exact .inl h
      · exact .inr (by omega)
    · exact ((Below.tcs (S := fun x => x ∈ L) BEL).trans ht2).join TR (fun k hk => .inr (by omega))


set_option maxRecDepth 8000 in
set_option maxHeartbeats 1000000 in
theorem st_do1 (ma : Option Addr) (mn mc' : Nat) (md mb : Int) (v : Value) (L : List Nat) (c : Mc) (w : World) (hG : Good c) (h : CpuV w v L c) (hst : c.st = 0) (n : Nat) (codes : List Int) (hc : Lis .u32 w (.slice ma mn mc') codes) (hcl : codes.length ≤ 20000) (hn : n < codes.length) (hp : c.pc = 4096 + 4 * (n : Int)) (k a b s d : Int) (hD : DecIs (codes.getD n 0) true k a b s d) (c2 : Mc) (h32 : c2.regs.length = 32)
    (hDo : ∀ w1, CpuV w1 v L c → Calls Tryz.prog 44 #[.agg #[.slice ma mn mc', .int .i64 md, .int .i64 mb], v, .agg #[.int .i64 k, .int .i64 a, .int .i64 b, .int .i64 s, .int .i64 d]] w1 fun e w' => ∃ u, e = .returned u ∧ ∃ L', CpuV w' u L' c2 ∧ (∀ x ∈ L', x ∈ L ∨ w1.heap.size ≤ x) ∧ Tcs (fun g => g ∈ L) w1 w')
    (hc2 : ¬ c2.st = 2) :
    Calls Tryz.prog 19 #[.agg #[.slice ma mn mc', .int .i64 md, .int .i64 mb], v] w fun e w' => ∃ u, e = .returned u ∧ ∃ L', CpuV w' u L' (lowM c2) ∧ (∀ x ∈ L', x ∈ L ∨ w.heap.size ≤ x) ∧ Tcs (fun g => g ∈ L) w w' := by
  obtain ⟨g, off, y1, n2, n3, n4, n5, x2, y2, x3, y3, x4, y4, x5, y5, rfl, hbk⟩ := h.shape32 hG.r32
  have A4 : Below w.heap.size w (((w.alloc (.cells #[.slice ma mn mc', .int .i64 md, .int .i64 mb] 34)).alloc (.cells #[.slice (some ⟨g, off, none⟩) 32 y1, .int .u32 c.pc, .slice x2 n2 y2, .slice x3 n3 y3, .slice x4 n4 y4, .slice x5 n5 y5, .int .u32 c.low, .int .i64 c.st] 32)).alloc (.cells #[.slice none 0 0, .int .u32 0, .slice none 0 0, .slice none 0 0, .slice none 0 0, .slice none 0 0, .int .u32 0, .int .i64 0] 32)) := (((Below.refl _ _).alloc (Nat.le_refl _) _).alloc (by simp) _).alloc (by simp; omega) _
  have hCb : (((w.alloc (.cells #[.slice ma mn mc', .int .i64 md, .int .i64 mb] 34)).alloc (.cells #[.slice (some ⟨g, off, none⟩) 32 y1, .int .u32 c.pc, .slice x2 n2 y2, .slice x3 n3 y3, .slice x4 n4 y4, .slice x5 n5 y5, .int .u32 c.low, .int .i64 c.st] 32)).alloc (.cells #[.slice none 0 0, .int .u32 0, .slice none 0 0, .slice none 0 0, .slice none 0 0, .slice none 0 0, .int .u32 0, .int .i64 0] 32)).heap[w.heap.size + 1]? = some (.cells #[.slice (some ⟨g, off, none⟩) 32 y1, .int .u32 c.pc, .slice x2 n2 y2, .slice x3 n3 y3, .slice x4 n4 y4, .slice x5 n5 y5, .int .u32 c.low, .int .i64 c.st] 32) := by
    rw [Below.heap_alloc _ _ _ (by simp)]
    have := heap_alloc_new (w.alloc (.cells #[.slice ma mn mc', .int .i64 md, .int .i64 mb] 34)) (.cells #[.slice (some ⟨g, off, none⟩) 32 y1, .int .u32 c.pc, .slice x2 n2 y2, .slice x3 n3 y3, .slice x4 n4 y4, .slice x5 n5 y5, .int .u32 c.low, .int .i64 c.st] 32)
    simpa only [World.size_alloc] using this
  have hgw : g < w.heap.size := h.lt g hbk
  have e1 : ¬ g = w.heap.size := by omega
  have e2 : ¬ g = w.heap.size + 1 := by omega
  have e3 : ¬ g = w.heap.size + 1 + 1 := by omega
  have hpc := hG.pcu
  have hs0 : (c.st != 0) = false := by rw [hst]; rfl
  have HST : Hid (c.st = 0) := hst
  clear hst
  obtain ⟨gm, om, cm, em, hRm, hbm⟩ := lis_some hc (by omega)
  simp only [Value.slice.injEq] at em
  obtain ⟨rfl, rfl, rfl⟩ := em
  have hgm := hRm.lt
  have cw := (hRm.keep A4.size (A4.block gm hRm.lt)).cell n hn
  have hq : ¬ c.pc - 4096 < 0 := by omega
  have hq4 : Int.tmod (c.pc - 4096) 4 = 0 := by rw [Int.tmod_eq_emod_of_nonneg (by omega)]; omega
  have hqd : Int.tdiv (c.pc - 4096) 4 = (n : Int) := by rw [Int.tdiv_eq_ediv_of_nonneg (by omega)]; omega
  have hqn : (n : Int) < (codes.length : Int) := by omega
  have hqn0 : (0 : Int) ≤ (n : Int) := by omega
  have hcl2 : (codes.length : Int) ≤ 20000 := by omega
  have hw64 : wrap64 (n : Int) = (n : Int) := by unfold wrap64; omega
  clear hcl
  have HP : Hid _ := hp
  clear hRm hbm hc hp
  generalize hcw : codes.getD n 0 = cwd at *
  have HD : Hid (∀ W : World, _) := hD.1
  have HDO : Hid (∀ w1, CpuV w1 _ L c → _) := hDo
  have H32 : Hid (c2.regs.length = 32) := h32
  have HC : Hid _ := hc2
  clear hD hDo h32 hc2
  have HX : Hid _ := And.intro h (And.intro A4 (Bx.of_heap hCb))
  clear h A4 hCb hbk
  go_enter Tryz.func19, Tryz.ntmps19
  go_wp2_with fail
  refine (HD.out _).mono ?_
  rintro e w1 ⟨rfl, hb1⟩
  have zz := hb1.size
  simp only [World.size_alloc] at zz
  have BEL : Below w.heap.size w (w1.alloc (.cells #[.bool true, .int .i64 k, .int .i64 a, .int .i64 b, .int .i64 s, .int .i64 d] 54)) := (HX.out.2.1.trans (hb1.mono (by simp; omega))).alloc (by omega) _
  have R0 := (by have := heap_alloc_new ((w.alloc (.cells #[.slice (some ⟨gm, om, none⟩) codes.length mc', .int .i64 md, .int .i64 mb] 34)).alloc (.cells #[.slice (some ⟨g, off, none⟩) 32 y1, .int .u32 c.pc, .slice x2 n2 y2, .slice x3 n3 y3, .slice x4 n4 y4, .slice x5 n5 y5, .int .u32 c.low, .int .i64 c.st] 32)) (.cells #[.slice none 0 0, .int .u32 0, .slice none 0 0, .slice none 0 0, .slice none 0 0, .slice none 0 0, .int .u32 0, .int .i64 0] 32); simpa only [World.size_alloc] using this : (((w.alloc (.cells #[.slice (some ⟨gm, om, none⟩) codes.length mc', .int .i64 md, .int .i64 mb] 34)).alloc (.cells #[.slice (some ⟨g, off, none⟩) 32 y1, .int .u32 c.pc, .slice x2 n2 y2, .slice x3 n3 y3, .slice x4 n4 y4, .slice x5 n5 y5, .int .u32 c.low, .int .i64 c.st] 32)).alloc (.cells #[.slice none 0 0, .int .u32 0, .slice none 0 0, .slice none 0 0, .slice none 0 0, .slice none 0 0, .int .u32 0, .int .i64 0] 32)).heap[w.heap.size + 1 + 1]? = _)
  have R1 : (w1.alloc (.cells #[.bool true, .int .i64 k, .int .i64 a, .int .i64 b, .int .i64 s, .int .i64 d] 54)).heap[w.heap.size + 1 + 1]? = _ := (Below.heap_alloc w1 _ _ (by omega)).trans ((hb1.block _ (by simp)).trans R0)
  have hBW := HX.out.2.2.below hb1
  have C1 : Bx (w1.alloc (.cells #[.bool true, .int .i64 k, .int .i64 a, .int .i64 b, .int .i64 s, .int .i64 d] 54)) (w.heap.size + 1) _ _ _ _ _ _ _ _ := hBW.below ((Below.refl w1.heap.size w1).alloc (Nat.le_refl _) _)
  have M1 : w1.heap[w.heap.size]? = some (.cells #[.slice (some ⟨gm, om, none⟩) codes.length mc', .int .i64 md, .int .i64 mb] 34) := by
    rw [hb1.block _ (by simp; omega), Below.heap_alloc _ _ _ (by simp; omega), Below.heap_alloc _ _ _ (by simp)]
    exact heap_alloc_new _ _
  have M2 : (w1.alloc (.cells #[.bool true, .int .i64 k, .int .i64 a, .int .i64 b, .int .i64 s, .int .i64 d] 54)).heap[w.heap.size]? = some (.cells #[.slice (some ⟨gm, om, none⟩) codes.length mc', .int .i64 md, .int .i64 mb] 34) := (Below.heap_alloc w1 _ _ (by omega)).trans M1
  have HR1 : Hid _ := And.intro R1 (And.intro C1 BEL)
  clear R0 R1 BEL hb1 hBW C1 M1 cw
  go_upto_region 7 with fail
  obtain ⟨W, hW⟩ : ∃ W, W = w1.alloc (.cells #[.bool true, .int .i64 k, .int .i64 a, .int .i64 b, .int .i64 s, .int .i64 d] 54) := ⟨_, rfl⟩
  rw [← hW]
  have X1 : W.heap[w1.heap.size]? = some (.cells #[.bool true, .int .i64 k, .int .i64 a, .int .i64 b, .int .i64 s, .int .i64 d] 54) := by rw [hW]; exact heap_alloc_new w1 _
  have xx0 := cell_of X1 (j := 0) rfl
  have xx1 := cell_of X1 (j := 1) rfl
  have xx2 := cell_of X1 (j := 2) rfl
  have xx3 := cell_of X1 (j := 3) rfl
  have xx4 := cell_of X1 (j := 4) rfl
  have xx5 := cell_of X1 (j := 5) rfl
  rw [← hW] at HR1
  rw [← hW] at M2
  have mm0 := cell_of M2 (j := 0) rfl
  have mm1 := cell_of M2 (j := 1) rfl
  have mm2 := cell_of M2 (j := 2) rfl
  obtain ⟨t0, t1, t2, t3, t4, t5, t6, t7, tf⟩ := id HR1.out.2.1
  have zW : W.heap.size = w1.heap.size + 1 := by rw [hW]; simp
  clear X1 hW M2
  go_wp2_with fail
  refine (HDO.out _ (HX.out.1.below HR1.out.2.2)).mono ?_
  rintro e w2 ⟨u2, rfl, L', cv2, hm2, ht2⟩
  obtain ⟨g2, o2, q1, m2, m3, m4, m5, p2, q2, p3, q3, p4, q4, p5, q5, rfl, hbk2⟩ := cv2.shape32 H32.out
  have hlt := HX.out.1.lt
  have CB2 := HR1.out.2.1.keep (ht2.block (w.heap.size + 1) (by omega) (fun e => by have := hlt _ e; omega))
  have RB2 := (Bx.of_heap HR1.out.1).keep (ht2.block (w.heap.size + 1 + 1) (by omega) (fun e => by have := hlt _ e; omega))
  obtain ⟨z0, z1, z2, z3, z4, z5, z6, z7, zf⟩ := id RB2
  clear t0 t1 t2 t3 t4 t5 t6 t7 tf
  obtain ⟨t0, t1, t2, t3, t4, t5, t6, t7, tf⟩ := id CB2
  have rr2 := (reg_cell cv2 H32.out (k := 2) (by omega)).1
  have hg2 : g2 < w.heap.size ∨ w.heap.size + 1 + 1 + 1 ≤ g2 := by
    rcases hm2 g2 hbk2 with h | h
    · exact .inl (hlt _ h)
    · exact .inr (by omega)
  have k1 : ¬ g2 = w.heap.size + 1 := by omega
  have k2 : ¬ g2 = w.heap.size + 1 + 1 := by omega
  have HV : Hid _ := And.intro cv2 (And.intro hm2 (And.intro ht2 (And.intro hlt HR1.out.2.2)))
  have HB : Hid _ := And.intro CB2 RB2
  clear cv2 hm2 ht2 CB2 RB2 HX HR1 hlt hbk2 mm0 mm1 mm2 xx0 xx1 xx2 xx3 xx4 xx5 HDO HD
  generalize hr2 : c2.regs.getD 2 0 = r2 at *
  have hs2 : (c2.st != 2) = true := by simpa using HC.out
  dsimp only
  go_wp2_with fail
  by_cases hA : r2 < c2.low
  · skip
    go_quiet (fail)
    go_upto_region 12 with fail
    obtain ⟨W9, hW9⟩ : ∃ W9, W9 = ((((((((((w2.setCell ⟨w.heap.size + 1, 0, none⟩ (.slice (some ⟨g2, o2, none⟩) 32 q1)).setCell ⟨w.heap.size + 1, 1, none⟩ (.int .u32 c2.pc)).setCell ⟨w.heap.size + 1, 2, none⟩ (.slice p2 m2 q2)).setCell ⟨w.heap.size + 1, 3, none⟩ (.slice p3 m3 q3)).setCell ⟨w.heap.size + 1, 4, none⟩ (.slice p4 m4 q4)).setCell ⟨w.heap.size + 1, 5, none⟩ (.slice p5 m5 q5)).setCell ⟨w.heap.size + 1, 6, none⟩ (.int .u32 c2.low)).setCell ⟨w.heap.size + 1, 7, none⟩ (.int .i64 c2.st))).drewN nq).setCell ⟨w.heap.size + 1, 6, none⟩ (.int .u32 r2) := ⟨_, rfl⟩
    rw [← hW9]
    have TC : Tcs (fun k => k = w.heap.size + 1) w2 W9 := by
      rw [hW9]
      exact (((Tcs.refl (fun k => k = w.heap.size + 1) w2).set8 _ rfl (.slice (some ⟨g2, o2, none⟩) 32 q1) (.int .u32 c2.pc) (.slice p2 m2 q2) (.slice p3 m3 q3) (.slice p4 m4 q4) (.slice p5 m5 q5) (.int .u32 c2.low) (.int .i64 c2.st)).drewN nq).setCell (p := ⟨w.heap.size + 1, 6, none⟩) rfl _
    have B9 : Bx W9 (w.heap.size + 1) (.slice (some ⟨g2, o2, none⟩) 32 q1) (.int .u32 c2.pc) (.slice p2 m2 q2) (.slice p3 m3 q3) (.slice p4 m4 q4) (.slice p5 m5 q5) (.int .u32 r2) (.int .i64 c2.st) := by
      rw [hW9]
      exact ((HB.out.1.set8 (.slice (some ⟨g2, o2, none⟩) 32 q1) (.int .u32 c2.pc) (.slice p2 m2 q2) (.slice p3 m3 q3) (.slice p4 m4 q4) (.slice p5 m5 q5) (.int .u32 c2.low) (.int .i64 c2.st)).drewN nq).s6 _
    have R9 := HB.out.2.keep (TC.block (w.heap.size + 1 + 1) HB.out.2.lt (by omega))
    clear z0 z1 z2 z3 z4 z5 z6 z7 zf t0 t1 t2 t3 t4 t5 t6 t7 tf rr2
    obtain ⟨z0, z1, z2, z3, z4, z5, z6, z7, zf⟩ := id R9
    obtain ⟨t0, t1, t2, t3, t4, t5, t6, t7, tf⟩ := id B9
    have HT : Hid _ := TC
    clear hW9 TC B9 R9
    go_wp2
    refine bodyPost_ret (v := .agg #[.slice (some ⟨g2, o2, none⟩) 32 q1, .int .u32 c2.pc, .slice p2 m2 q2, .slice p3 m3 q3, .slice p4 m4 q4, .slice p5 m5 q5, .int .u32 r2, .int .i64 c2.st]) (by simp [results, Tryz.results19, go_sem, z0, z1, z2, z3, z4, z5, z6, z7]) rfl ?_
    obtain ⟨cv2, hm2, ht2, hlt, BEL⟩ := HV.out
    have TR := (HT.out.mono (T := fun k => k = w.heap.size + 1 ∨ k = w.heap.size + 1 + 1) (fun k hk => .inl hk)).set8 (w.heap.size + 1 + 1) (.inr rfl) (.slice (some ⟨g2, o2, none⟩) 32 q1) (.int .u32 c2.pc) (.slice p2 m2 q2) (.slice p3 m3 q3) (.slice p4 m4 q4) (.slice p5 m5 q5) (.int .u32 r2) (.int .i64 c2.st)
    have k3 := cv2.tcs TR (fun g hg hx => by
      rcases hm2 g hg with h | h
      · have := hlt _ h
        omega
      · omega)
    refine ⟨_, rfl, L', (by unfold lowM; rw [hr2, if_pos hA]; exact k3.low r2), fun x hx => ?_, ?_⟩
    · rcases hm2 x hx with h | h
      · exact .inl h
      · exact .inr (by omega)
    · exact ((Below.tcs (S := fun x => x ∈ L) BEL).trans ht2).join TR (fun k hk => .inr (by omega))
  · skip
    go_quiet (fail)
    go_upto_region 12 with fail
    obtain ⟨W9, hW9⟩ : ∃ W9, W9 = (((((((((w2.setCell ⟨w.heap.size + 1, 0, none⟩ (.slice (some ⟨g2, o2, none⟩) 32 q1)).setCell ⟨w.heap.size + 1, 1, none⟩ (.int .u32 c2.pc)).setCell ⟨w.heap.size + 1, 2, none⟩ (.slice p2 m2 q2)).setCell ⟨w.heap.size + 1, 3, none⟩ (.slice p3 m3 q3)).setCell ⟨w.heap.size + 1, 4, none⟩ (.slice p4 m4 q4)).setCell ⟨w.heap.size + 1, 5, none⟩ (.slice p5 m5 q5)).setCell ⟨w.heap.size + 1, 6, none⟩ (.int .u32 c2.low)).setCell ⟨w.heap.size + 1, 7, none⟩ (.int .i64 c2.st))).drewN nq := ⟨_, rfl⟩
    rw [← hW9]
    have TC : Tcs (fun k => k = w.heap.size + 1) w2 W9 := by
      rw [hW9]
      exact (((Tcs.refl (fun k => k = w.heap.size + 1) w2).set8 _ rfl (.slice (some ⟨g2, o2, none⟩) 32 q1) (.int .u32 c2.pc) (.slice p2 m2 q2) (.slice p3 m3 q3) (.slice p4 m4 q4) (.slice p5 m5 q5) (.int .u32 c2.low) (.int .i64 c2.st)).drewN nq)
    have B9 : Bx W9 (w.heap.size + 1) (.slice (some ⟨g2, o2, none⟩) 32 q1) (.int .u32 c2.pc) (.slice p2 m2 q2) (.slice p3 m3 q3) (.slice p4 m4 q4) (.slice p5 m5 q5) (.int .u32 c2.low) (.int .i64 c2.st) := by
      rw [hW9]
      exact ((HB.out.1.set8 (.slice (some ⟨g2, o2, none⟩) 32 q1) (.int .u32 c2.pc) (.slice p2 m2 q2) (.slice p3 m3 q3) (.slice p4 m4 q4) (.slice p5 m5 q5) (.int .u32 c2.low) (.int .i64 c2.st)).drewN nq)
    have R9 := HB.out.2.keep (TC.block (w.heap.size + 1 + 1) HB.out.2.lt (by omega))
    clear z0 z1 z2 z3 z4 z5 z6 z7 zf t0 t1 t2 t3 t4 t5 t6 t7 tf rr2
    obtain ⟨z0, z1, z2, z3, z4, z5, z6, z7, zf⟩ := id R9
    obtain ⟨t0, t1, t2, t3, t4, t5, t6, t7, tf⟩ := id B9
    have HT : Hid _ := TC
    clear hW9 TC B9 R9
    go_wp2
    refine bodyPost_ret (v := .agg #[.slice (some ⟨g2, o2, none⟩) 32 q1, .int .u32 c2.pc, .slice p2 m2 q2, .slice p3 m3 q3, .slice p4 m4 q4, .slice p5 m5 q5, .int .u32 c2.low, .int .i64 c2.st]) (by simp [results, Tryz.results19, go_sem, z0, z1, z2, z3, z4, z5, z6, z7]) rfl ?_
    obtain ⟨cv2, hm2, ht2, hlt, BEL⟩ := HV.out
    have TR := (HT.out.mono (T := fun k => k = w.heap.size + 1 ∨ k = w.heap.size + 1 + 1) (fun k hk => .inl hk)).set8 (w.heap.size + 1 + 1) (.inr rfl) (.slice (some ⟨g2, o2, none⟩) 32 q1) (.int .u32 c2.pc) (.slice p2 m2 q2) (.slice p3 m3 q3) (.slice p4 m4 q4) (.slice p5 m5 q5) (.int .u32 c2.low) (.int .i64 c2.st)
    have k3 := cv2.tcs TR (fun g hg hx => by
      rcases hm2 g hg with h | h
      · have := hlt _ h
        omega
      · omega)
    refine ⟨_, rfl, L', (by unfold lowM; rw [if_neg (by rw [hr2]; omega)]; exact k3), fun x hx => ?_, ?_⟩
    · rcases hm2 x hx with h | h
      · exact .inl h
      · exact .inr (by omega)
    · exact ((Below.tcs (S := fun x => x ∈ L) BEL).trans ht2).join TR (fun k hk => .inr (by omega))

end Go.Proofs.YtabjcodpagjbjaaGreat

namespace Go.Proofs.YtabjcodpagjbjaaGreat
open Go.RowKit
set_option linter.unusedVariables false
set_option linter.unusedSimpArgs false

theorem dat_row {w : World} {r p s i o l t : Value} {x : Option Addr} {n y : Nat} {L : List Nat} {c : Mc} (h : CpuV w (.agg #[r, p, .slice x n y, s, i, o, l, t]) L c) (hn : 0 < c.data.length) :
    ∃ gd od, x = some ⟨gd, od, none⟩ ∧ Row .u8 w gd od c.data ∧ gd ∈ L ∧ (∀ g ∈ blk r, gd ≠ g) := by
  obtain ⟨r', d', s', i', o', hv, hr, hd, hs, hi, ho, hk, rfl, hnd⟩ := h
  simp only [Value.agg.injEq, Array.mk.injEq, List.cons.injEq, and_true] at hv
  obtain ⟨rfl, rfl, rfl, rfl, rfl, rfl, rfl, rfl⟩ := hv
  obtain ⟨gd, od, cd, e, hR, hb⟩ := lis_some hd hn
  simp only [Value.slice.injEq] at e
  obtain ⟨rfl, rfl, rfl⟩ := e
  refine ⟨gd, od, rfl, hR, by rw [hb]; simp, fun g hg e => ?_⟩
  subst e
  rw [hb] at hnd
  simp only [List.append_assoc] at hnd
  exact nodup_sub hnd hg (by simp)
theorem stk_row {w : World} {r p d i o l t : Value} {x : Option Addr} {n y : Nat} {L : List Nat} {c : Mc} (h : CpuV w (.agg #[r, p, d, .slice x n y, i, o, l, t]) L c) (hn : 0 < c.stack.length) :
    ∃ gd od, x = some ⟨gd, od, none⟩ ∧ Row .u8 w gd od c.stack ∧ gd ∈ L ∧ (∀ g ∈ blk r, gd ≠ g) := by
  obtain ⟨r', d', s', i', o', hv, hr, hd, hs, hi, ho, hk, rfl, hnd⟩ := h
  simp only [Value.agg.injEq, Array.mk.injEq, List.cons.injEq, and_true] at hv
  obtain ⟨rfl, rfl, rfl, rfl, rfl, rfl, rfl, rfl⟩ := hv
  obtain ⟨gd, od, cd, e, hR, hb⟩ := lis_some hs hn
  simp only [Value.slice.injEq] at e
  obtain ⟨rfl, rfl, rfl⟩ := e
  refine ⟨gd, od, rfl, hR, by rw [hb]; simp, fun g hg e => ?_⟩
  subst e
  rw [hb] at hnd
  simp only [List.append_assoc] at hnd
  exact nodup_sub hnd hg (by simp)
theorem CpuV.dat {w w' : World} {r p s i o l t : Value} {gd od n y : Nat} {L : List Nat} {c : Mc} {rs : List Int} (h : CpuV w (.agg #[r, p, .slice (some ⟨gd, od, none⟩) n y, s, i, o, l, t]) L c) (hn : 0 < c.data.length)
    (ht : Tcs (fun k => k = gd) w w') (hl : rs.length = c.data.length) (hR : Row .u8 w' gd od rs) : CpuV w' (.agg #[r, p, .slice (some ⟨gd, od, none⟩) n y, s, i, o, l, t]) L { c with data := rs } := by
  obtain ⟨r', d', s', i', o', hv, hr, hd, hs, hi, ho, hk, hL, hnd⟩ := h
  simp only [Value.agg.injEq, Array.mk.injEq, List.cons.injEq, and_true] at hv
  obtain ⟨rfl, rfl, rfl, rfl, rfl, rfl, rfl, rfl⟩ := hv
  obtain ⟨a, k, e⟩ := hd.len0
  simp only [Value.slice.injEq] at e
  obtain ⟨_, rfl, _⟩ := e
  have hb : blk (.slice (some ⟨gd, od, none⟩) c.data.length y) = [gd] := blk_some _ _ _ hn
  have hnd' := hnd
  rw [hL, hb] at hnd'
  simp only [List.append_assoc, List.nodup_append, List.mem_append, List.mem_cons, List.not_mem_nil, or_false, List.cons_append, List.nil_append, List.nodup_cons] at hnd'
  obtain ⟨n1, ⟨n2, n3⟩, n4⟩ := hnd'
  refine ⟨_, _, _, _, _, rfl, hr.tcs ht fun g hg e => n4 g hg gd (.inl rfl) e, ?_, hs.tcs ht fun g hg e => n2 (.inl (e ▸ hg)), hi.tcs ht fun g hg e => n2 (.inr (.inl (e ▸ hg))), own_tcs ho ht fun g hg e => n2 (.inr (.inr (e ▸ hg))), hk, hL, hnd⟩
  exact ⟨_, _, by rw [hl], fun _ => ⟨gd, od, rfl, hR⟩⟩
theorem CpuV.stk {w w' : World} {r p d i o l t : Value} {gd od n y : Nat} {L : List Nat} {c : Mc} {rs : List Int} (h : CpuV w (.agg #[r, p, d, .slice (some ⟨gd, od, none⟩) n y, i, o, l, t]) L c) (hn : 0 < c.stack.length)
    (ht : Tcs (fun k => k = gd) w w') (hl : rs.length = c.stack.length) (hR : Row .u8 w' gd od rs) : CpuV w' (.agg #[r, p, d, .slice (some ⟨gd, od, none⟩) n y, i, o, l, t]) L { c with stack := rs } := by
  obtain ⟨r', d', s', i', o', hv, hr, hd, hs, hi, ho, hk, hL, hnd⟩ := h
  simp only [Value.agg.injEq, Array.mk.injEq, List.cons.injEq, and_true] at hv
  obtain ⟨rfl, rfl, rfl, rfl, rfl, rfl, rfl, rfl⟩ := hv
  obtain ⟨a, k, e⟩ := hs.len0
  simp only [Value.slice.injEq] at e
  obtain ⟨_, rfl, _⟩ := e
  have hb : blk (.slice (some ⟨gd, od, none⟩) c.stack.length y) = [gd] := blk_some _ _ _ hn
  have hnd' := hnd
  rw [hL, hb] at hnd'
  simp only [List.append_assoc, List.nodup_append, List.mem_append, List.mem_cons, List.not_mem_nil, or_false, List.cons_append, List.nil_append, List.nodup_cons] at hnd'
  obtain ⟨n1, ⟨n2, ⟨n3, n5⟩, n6⟩, n4⟩ := hnd'
  refine ⟨_, _, _, _, _, rfl, hr.tcs ht fun g hg e => n4 g hg gd (.inr (.inl rfl)) e, hd.tcs ht fun g hg e => n6 g hg gd (.inl rfl) e, ?_, hi.tcs ht fun g hg e => n3 (.inl (e ▸ hg)), own_tcs ho ht fun g hg e => n3 (.inr (e ▸ hg)), hk, hL, hnd⟩
  exact ⟨_, _, by rw [hl], fun _ => ⟨gd, od, rfl, hR⟩⟩

end Go.Proofs.YtabjcodpagjbjaaGreat
