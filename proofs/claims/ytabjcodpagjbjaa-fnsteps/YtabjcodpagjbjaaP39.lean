import Derived.Deep.Cut
import Derived.Handy
import Derived.Test.YtabjcodpagjbjaaP31
import Derived.Test.YtabjcodpagjbjaaP03
import Derived.Test.YtabjcodpagjbjaaP17
import Derived.Test.YtabjcodpagjbjaaP33
namespace Go.Proofs.Ytabjcodpagjbjaa
open Go.RowKit
set_option linter.unusedVariables false
set_option linter.unusedSectionVars false
set_option linter.unusedSimpArgs false
set_option linter.unusedSectionVars false
variable [Inhabited Pick]

theorem own_base {W : World} {B B' e n : Nat} {v : Value} {xs : List Value} (h : W.ownsRow B e 1 v n xs) (hb : ∀ g ∈ obk v, B' ≤ g) : W.ownsRow B' e 1 v n xs := by
  refine ⟨h.1, ?_⟩
  rcases h.2 with h0 | ⟨g, cap, cur, rfl, hbg, hr⟩
  · exact .inl h0
  · exact .inr ⟨g, cap, cur, rfl, hb g (by simp [obk]), hr⟩
theorem CpuAt.toV {w : World} {B : Nat} {v : Value} {c : Mc} (h : CpuAt w B v c) : ∃ L, CpuV w v L c ∧ ∀ g ∈ L, B ≤ g := by
  obtain ⟨r, d, s, i, o, rfl, hr, hd, hs, hi, ho, hnd, hB, hk⟩ := h
  exact ⟨_, ⟨r, d, s, i, o, rfl, hr, hd, hs, hi, own_mono ho (Nat.zero_le _), hk, rfl, hnd⟩, hB⟩
theorem CpuV.toAt {w : World} {B : Nat} {v : Value} {L : List Nat} {c : Mc} (h : CpuV w v L c) (hB : ∀ g ∈ L, B ≤ g) : CpuAt w B v c := by
  obtain ⟨r, d, s, i, o, rfl, hr, hd, hs, hi, ho, hk, rfl, hnd⟩ := h
  exact ⟨r, d, s, i, o, rfl, hr, hd, hs, hi, own_base ho (fun g hg => hB g (by simp [hg])), hnd, hB, hk⟩
theorem getD_rep (n j : Nat) : (List.replicate n (0 : Int)).getD j 0 = 0 := by
  simp only [List.getD_eq_getElem?_getD, List.getElem?_replicate]
  split <;> rfl
theorem boot_good (n : Nat) (d b : Int) (zs : List Int) (hv : vimg n d b = true) (ho : okIn zs = true) :
    Good (bootM n d b zs) ∧ (bootM n d b zs).st = 0 ∧ b = ((bootM n d b zs).stack.length : Int) ∧ n ≤ 20000 := by
  unfold bootM
  rw [hv, ho]
  simp only [Bool.and_self, if_true]
  unfold vimg at hv
  simp only [decide_eq_true_eq] at hv
  unfold okIn at ho
  simp only [Bool.and_eq_true, decide_eq_true_eq] at ho
  have hw := ho.2
  unfold wrds at hw
  rw [List.all_eq_true] at hw
  refine ⟨{ r32 := rfl, ru := ?_, r0 := rfl, pcu := by dsimp only; omega, lou := by dsimp only; omega, dl := by simp; omega, du := ?_, sl := by simp; omega, su := ?_, il := ho.1, iu := ?_, ol := by simp, ou := (fun j hj => absurd hj (by simp)), st := by dsimp only; omega }, by trivial, by simp; omega, hv.2.1⟩
  · intro j hj
    have : ∀ j, j < 32 → 0 ≤ regs0.getD j 0 ∧ regs0.getD j 0 ≤ 4294967295 := by decide
    exact this j hj
  · intro j hj
    dsimp only
    rw [getD_rep]
    omega
  · intro j hj
    dsimp only
    rw [getD_rep]
    omega
  · intro j hj
    dsimp only at hj ⊢
    have := hw (zs.getD j 0) (by simp [List.getD, hj])
    unfold wrd at this
    simpa using this


def RInv (w wr : World) (Cb : Nat) (mo ro : Obj) (cv : Value) (codes : List Int) (c : Mc) : Prop :=
  ∃ r d s i o L, Bx wr Cb r (.int .u32 c.pc) d s i o (.int .u32 c.low) (.int .i64 c.st) ∧ CpuV wr (.agg #[r, .int .u32 c.pc, d, s, i, o, .int .u32 c.low, .int .i64 c.st]) L c ∧ (∀ g ∈ L, w.heap.size + 1 < g ∧ g ≠ Cb) ∧
    wr.heap[w.heap.size]? = some mo ∧ wr.heap[w.heap.size + 1]? = some ro ∧ Lis .u32 wr cv codes ∧ (∀ g ∈ blk cv, g < w.heap.size) ∧ Below w.heap.size w wr ∧ w.heap.size + 1 < Cb


set_option maxRecDepth 8000 in
set_option maxHeartbeats 1000000 in
theorem run_s_yes (a : Option Addr) (len cap : Nat) (d bd : Int) (v : Value) (zs codes : List Int) (w : World) (hl : len ≤ 1048576) (hz : zs.length ≤ 2097152) (h : Lis .i64 w v zs) (hnil : v = .slice none 0 0 ∨ ∃ ad m c, v = .slice (some ad) m c) (hc : Lis .u32 w (.slice a len cap) codes) (hcu : ∀ j, j < codes.length → 0 ≤ codes.getD j 0 ∧ codes.getD j 0 ≤ 4294967295) (N : Nat) (hN : N ≤ 1000000) (hv : vimg len d bd = true) (ho : okIn zs = true) :
    Calls Try.prog 9 #[.agg #[.slice a len cap, .int .i64 d, .int .i64 bd], v, .int .i64 N] w fun e w' => ∃ u, e = .returned u ∧ CpuAt w' w.heap.size u (runM codes bd (bootM len d bd zs) N) ∧ Below w.heap.size w w' := by
  have B2 : Below w.heap.size w ((w.alloc (.cells #[.slice a len cap, .int .i64 d, .int .i64 bd] 25)).alloc (.cells #[.slice none 0 0, .int .u32 0, .slice none 0 0, .slice none 0 0, .slice none 0 0, .slice none 0 0, .int .u32 0, .int .i64 0] 32)) := ((Below.refl _ _).alloc (Nat.le_refl _) _).alloc (by simp) _
  have HBO := boot_s a len cap d bd v zs ((w.alloc (.cells #[.slice a len cap, .int .i64 d, .int .i64 bd] 25)).alloc (.cells #[.slice none 0 0, .int .u32 0, .slice none 0 0, .slice none 0 0, .slice none 0 0, .slice none 0 0, .int .u32 0, .int .i64 0] 32)) hl hz (h.below B2) hnil
  have hcod := hc.below B2
  have hll := lis_len hc
  have hcb : ∀ g ∈ blk (.slice a len cap), g < w.heap.size := hc.lt
  obtain ⟨hG0, hst0, hmb0, hl2⟩ := boot_good len d bd zs hv ho
  have hco : CodesOk codes := ⟨by omega, hcu⟩
  generalize bootM len d bd zs = c0 at *
  have hNI : (N : Int) ≤ 1000000 := by omega
  have HQ : Hid _ := And.intro HBO (And.intro hcod B2)
  clear HBO hcod B2 h hc hz hnil hcu hl
  have HG : Hid _ := And.intro hG0 (And.intro hst0 (And.intro hmb0 (And.intro hl2 (And.intro hN (And.intro hll hco)))))
  clear hG0 hst0 hmb0 hl2 hll hN hco hv ho
  go_enter Try.func9, Try.ntmps9
  go_wp2_with fail
  refine HQ.out.1.mono ?_
  rintro e w1 ⟨u1, rfl, hA, hb1⟩
  obtain ⟨L, cv, hLB⟩ := hA.toV
  obtain ⟨g2, o2, q1, m2, m3, m4, m5, p2, q2, p3, q3, p4, q4, p5, q5, rfl, hbk2⟩ := cv.shape32 HG.out.1.r32
  have zz := hb1.size
  simp only [World.size_alloc] at zz hLB
  have M1 : w1.heap[w.heap.size]? = some (.cells #[.slice a len cap, .int .i64 d, .int .i64 bd] 25) := by
    rw [hb1.block _ (by simp; omega), Below.heap_alloc _ _ _ (by simp)]
    exact heap_alloc_new _ _
  have R1 : w1.heap[w.heap.size + 1]? = some (.cells #[.slice none 0 0, .int .u32 0, .slice none 0 0, .slice none 0 0, .slice none 0 0, .slice none 0 0, .int .u32 0, .int .i64 0] 32) := by
    rw [hb1.block _ (by simp)]
    have := heap_alloc_new (w.alloc (.cells #[.slice a len cap, .int .i64 d, .int .i64 bd] 25)) (.cells #[.slice none 0 0, .int .u32 0, .slice none 0 0, .slice none 0 0, .slice none 0 0, .slice none 0 0, .int .u32 0, .int .i64 0] 32)
    simpa only [World.size_alloc] using this
  have hcod1 := HQ.out.2.1.below hb1
  have BW1 : Below w.heap.size w w1 := HQ.out.2.2.trans (hb1.mono (by simp; omega))
  have hlt := cv.lt
  have HV : Hid _ := And.intro cv (And.intro hLB (And.intro M1 (And.intro R1 (And.intro hcod1 (And.intro BW1 hlt)))))
  clear cv hLB M1 R1 hcod1 BW1 hlt hA hb1 HQ hbk2
  dsimp only
  go_upto_region 2 with fail
  obtain ⟨W, hW⟩ : ∃ W, W = w1.alloc (.cells #[.slice (some ⟨g2, o2, none⟩) 32 q1, .int .u32 c0.pc, .slice p2 m2 q2, .slice p3 m3 q3, .slice p4 m4 q4, .slice p5 m5 q5, .int .u32 c0.low, .int .i64 c0.st] 32) := ⟨_, rfl⟩
  rw [← hW]
  obtain ⟨cv, hLB, M1, R1, hcod1, BW1, hlt⟩ := HV.out
  have X1 : W.heap[w1.heap.size]? = some (.cells #[.slice (some ⟨g2, o2, none⟩) 32 q1, .int .u32 c0.pc, .slice p2 m2 q2, .slice p3 m3 q3, .slice p4 m4 q4, .slice p5 m5 q5, .int .u32 c0.low, .int .i64 c0.st] 32) := by rw [hW]; exact heap_alloc_new w1 _
  have AW : Below w1.heap.size w1 W := by rw [hW]; exact (Below.refl _ _).alloc (Nat.le_refl _) _
  have zW : W.heap.size = w1.heap.size + 1 := by rw [hW]; simp
  have B9 := Bx.of_heap X1
  obtain ⟨t0, t1, t2, t3, t4, t5, t6, t7, tf⟩ := id B9
  have HI : Hid (RInv w W w1.heap.size (.cells #[.slice a len cap, .int .i64 d, .int .i64 bd] 25) (.cells #[.slice none 0 0, .int .u32 0, .slice none 0 0, .slice none 0 0, .slice none 0 0, .slice none 0 0, .int .u32 0, .int .i64 0] 32) (.slice a len cap) codes (runM codes bd c0 0)) :=
    ⟨_, _, _, _, _, L, B9, cv.below AW, fun g hg => ⟨by have := hLB g hg; omega, by have := hlt g hg; omega⟩, (AW.block _ (by omega)).trans M1, (AW.block _ (by omega)).trans R1, hcod1.below AW, hcb, BW1.trans (AW.mono (by omega)), by omega⟩
  clear cv hLB M1 R1 hcod1 BW1 hlt X1 AW hW B9 HV
  have hin : inB (N : Int) 0 1000000 = true := by unfold inB; simp; omega
  go_wp2_with (first
    | (go_at_call 32; refine (in_any _ _ _ _).mono ?_; rintro e w' ⟨rfl, rfl⟩; rw [hin]))
  clear t0 t1 t2 t3 t4 t5 t6 t7 tf
  go_loopw [8] (fun i wr => ∃ n : Nat, n ≤ N ∧ i = .int .i64 n ∧ RInv w wr w1.heap.size (.cells #[.slice a len cap, .int .i64 d, .int .i64 bd] 25) (.cells #[.slice none 0 0, .int .u32 0, .slice none 0 0, .slice none 0 0, .slice none 0 0, .slice none 0 0, .int .u32 0, .int .i64 0] 32) (.slice a len cap) codes (runM codes bd c0 n)) (fun i _ => N - (intOf i).toNat)
  case atStart => exact ⟨0, Nat.zero_le _, rfl, HI.out⟩
  case round =>
    obtain ⟨n, hn, rfl, hR⟩ := hrel
    have hG := runM_good codes bd c0 HG.out.1 HG.out.2.2.1 HG.out.2.2.2.2.2.2 n
    have hE : runM codes bd c0 N = runM codes bd c0 n ∨ (n < N ∧ (runM codes bd c0 n).st = 0) := by
      by_cases h1 : n < N
      · by_cases h2 : (runM codes bd c0 n).st = 0
        · exact .inr ⟨h1, h2⟩
        · refine .inl ?_
          rw [show N = n + (N - n) by omega]
          exact runM_stop codes bd c0 n h2 _
      · obtain rfl : n = N := by omega
        exact .inl rfl
    have hx : ¬ (n < N ∧ (runM codes bd c0 n).st = 0) ∨ StepIs codes bd (runM codes bd c0 n) (runM codes bd c0 (n + 1)) := by
      by_cases h2 : (runM codes bd c0 n).st = 0
      · refine .inr ?_
        rw [show runM codes bd c0 (n + 1) = (if (runM codes bd c0 n).st = 0 then nextM codes bd (runM codes bd c0 n) else runM codes bd c0 n) from rfl, if_pos h2]
        exact nextM_ok codes bd _ hG.1 h2 (by rw [hG.2.2]; exact HG.out.2.2.1) HG.out.2.2.2.2.2.2
      · exact .inl (fun h => h2 h.2)
    have HP : Hid _ := And.intro hE hx
    clear hE hx HI
    generalize hnx : runM codes bd c0 (n + 1) = nx at *
    generalize hcc : runM codes bd c0 n = c at *
    obtain ⟨r, dd, s, i, o, L, hB, hcv, hL, hM, hRo, hco, hcbk, hBW, hCb⟩ := hR
    obtain ⟨k1, k2, k3, k4, k5, a1, b1, a2, b2, a3, b3, a4, b4, a5, b5, hsh⟩ := hcv.shape
    simp only [Value.agg.injEq, Array.mk.injEq, List.cons.injEq, and_true, true_and] at hsh
    obtain ⟨rfl, rfl, rfl, rfl, rfl⟩ := hsh
    obtain ⟨t0, t1, t2, t3, t4, t5, t6, t7, tf⟩ := id hB
    have mm0 := cell_of hM (j := 0) rfl
    have mm1 := cell_of hM (j := 1) rfl
    have mm2 := cell_of hM (j := 2) rfl
    have RB := Bx.of_heap hRo
    have HS : Hid _ := And.intro hB (And.intro hcv (And.intro hL (And.intro hM (And.intro hRo (And.intro hco (And.intro hcbk (And.intro hBW hCb)))))))
    clear hB hcv hL hM hRo hco hcbk hBW
    have hnI : (n : Int) ≤ (N : Int) := by omega
    by_cases hgo : n < N ∧ c.st = 0
    · have hlt : (n : Int) < (N : Int) := by omega
      have hst : (c.st == 0) = true := by rw [hgo.2]; rfl
      have HC : Hid _ := HS.out.2.1
      have hstep := (HP.out.2.resolve_left (fun h => h hgo)).2.1
      have HN : Hid _ := And.intro hgo (HP.out.2.resolve_left (fun h => h hgo))
      clear hgo hstep RB
      go_wp2_with fail
      refine ((HN.out.2).2.1 a len cap d _ L wr HS.out.2.1 HS.out.2.2.2.2.2.1).mono ?_
      rintro e w2 ⟨u2, rfl, L', cv2, hm2, ht2⟩
      obtain ⟨j1, j2, j3, j4, j5, e1, f1, e2, f2, e3, f3, e4, f4, e5, f5, rfl⟩ := cv2.shape
      have hL := HS.out.2.2.1
      have CB2 := HS.out.1.keep (ht2.block w1.heap.size HS.out.1.lt (fun e => (hL _ e).2 rfl))
      clear t0 t1 t2 t3 t4 t5 t6 t7 tf mm0 mm1 mm2
      obtain ⟨t0, t1, t2, t3, t4, t5, t6, t7, tf⟩ := id CB2
      have HV2 : Hid _ := And.intro cv2 (And.intro hm2 (And.intro ht2 CB2))
      clear cv2 hm2 ht2 CB2 hL HC
      dsimp only
      go_wp2
      go_roundw
      case rel =>
        obtain ⟨cv2, hm2, ht2, CB2⟩ := HV2.out
        obtain ⟨hB, hcv, hL, hM, hRo, hco, hcbk, hBW, hCb⟩ := HS.out
        have hbl := hB.lt
        have TR := (Tcs.refl (fun k => k = w1.heap.size) w2).set8 _ rfl (.slice e1 j1 f1) (.int .u32 nx.pc) (.slice e2 j2 f2) (.slice e3 j3 f3) (.slice e4 j4 f4) (.slice e5 j5 f5) (.int .u32 nx.low) (.int .i64 nx.st)
        have s2 := ht2.size
        have hL' : ∀ g ∈ L', w.heap.size + 1 < g ∧ g ≠ w1.heap.size := fun g hg => by
          rcases hm2 g hg with h | h
          · exact hL g h
          · omega
        refine ⟨n + 1, by have := HN.out.1; omega, by go_num, ?_⟩
        rw [hnx]
        refine ⟨_, _, _, _, _, L', CB2.set8 (.slice e1 j1 f1) (.int .u32 nx.pc) (.slice e2 j2 f2) (.slice e3 j3 f3) (.slice e4 j4 f4) (.slice e5 j5 f5) (.int .u32 nx.low) (.int .i64 nx.st), cv2.tcs TR (fun g hg e => (hL' g hg).2 e), hL', ?_, ?_, ?_, hcbk, ?_, hCb⟩
        · exact (TR.block _ (by have := hBW.size; omega) (by omega)).trans ((ht2.block _ (by omega) (fun e => by have := hL _ e; omega)).trans hM)
        · exact (TR.block _ (by omega) (by omega)).trans ((ht2.block _ (by omega) (fun e => by have := hL _ e; omega)).trans hRo)
        · exact (hco.tcs ht2 (fun g hg e => by have := hcbk g hg; have := hL _ e; omega)).tcs TR (fun g hg e => by have := hcbk g hg; omega)
        · exact TR.below (ht2.below hBW hBW.size (fun k hk => by have := hL k hk; omega)) (by have := hBW.size; omega) (by rintro k rfl; omega)
      case measure => have := HN.out.1; simp [intOf]; omega
    · have HN : Hid _ := HP.out.1.resolve_right hgo
      obtain ⟨z0, z1, z2, z3, z4, z5, z6, z7, zf⟩ := id RB
      by_cases h1 : n < N
      · have hlt : (n : Int) < (N : Int) := by omega
        have hst : (c.st == 0) = false := by simp; intro h; exact hgo ⟨h1, h⟩
        clear hgo RB h1
        go_wp2
        refine bodyPost_ret (v := .agg #[.slice a1 k1 b1, .int .u32 c.pc, .slice a2 k2 b2, .slice a3 k3 b3, .slice a4 k4 b4, .slice a5 k5 b5, .int .u32 c.low, .int .i64 c.st]) (by simp [results, Try.results9, go_sem, z0, z1, z2, z3, z4, z5, z6, z7]) rfl ?_
        obtain ⟨hB, hcv, hL, hM, hRo, hco, hcbk, hBW, hCb⟩ := HS.out
        rw [HN.out]
        have TR := (Tcs.refl (fun k => k = w.heap.size + 1) wr).set8 _ rfl (.slice a1 k1 b1) (.int .u32 c.pc) (.slice a2 k2 b2) (.slice a3 k3 b3) (.slice a4 k4 b4) (.slice a5 k5 b5) (.int .u32 c.low) (.int .i64 c.st)
        exact ⟨_, rfl, (hcv.tcs TR (fun g hg e => by have := hL g hg; omega)).toAt (fun g hg => by have := hL g hg; omega), TR.below hBW hBW.size (by rintro k rfl; omega)⟩
      · have hge : ¬ (n : Int) < (N : Int) := by omega
        clear hgo RB h1
        go_wp2
        refine bodyPost_ret (v := .agg #[.slice a1 k1 b1, .int .u32 c.pc, .slice a2 k2 b2, .slice a3 k3 b3, .slice a4 k4 b4, .slice a5 k5 b5, .int .u32 c.low, .int .i64 c.st]) (by simp [results, Try.results9, go_sem, z0, z1, z2, z3, z4, z5, z6, z7]) rfl ?_
        obtain ⟨hB, hcv, hL, hM, hRo, hco, hcbk, hBW, hCb⟩ := HS.out
        rw [HN.out]
        have TR := (Tcs.refl (fun k => k = w.heap.size + 1) wr).set8 _ rfl (.slice a1 k1 b1) (.int .u32 c.pc) (.slice a2 k2 b2) (.slice a3 k3 b3) (.slice a4 k4 b4) (.slice a5 k5 b5) (.int .u32 c.low) (.int .i64 c.st)
        exact ⟨_, rfl, (hcv.tcs TR (fun g hg e => by have := hL g hg; omega)).toAt (fun g hg => by have := hL g hg; omega), TR.below hBW hBW.size (by rintro k rfl; omega)⟩

end Go.Proofs.Ytabjcodpagjbjaa

namespace Go.Proofs.Ytabjcodpagjbjaa
open Go.RowKit
set_option linter.unusedVariables false
set_option linter.unusedSectionVars false
set_option linter.unusedSimpArgs false
set_option linter.unusedSectionVars false
variable [Inhabited Pick]

set_option maxRecDepth 8000 in
set_option maxHeartbeats 1000000 in
theorem run_s_no (a : Option Addr) (len cap : Nat) (d bd : Int) (v : Value) (zs codes : List Int) (w : World) (hl : len ≤ 1048576) (hz : zs.length ≤ 2097152) (h : Lis .i64 w v zs) (hnil : v = .slice none 0 0 ∨ ∃ ad m c, v = .slice (some ad) m c) (hc : Lis .u32 w (.slice a len cap) codes) (hcu : ∀ j, j < codes.length → 0 ≤ codes.getD j 0 ∧ codes.getD j 0 ≤ 4294967295) (steps : Int) (hv : (vimg len d bd && okIn zs) = false) :
    Calls Try.prog 9 #[.agg #[.slice a len cap, .int .i64 d, .int .i64 bd], v, .int .i64 steps] w fun e w' => ∃ u, e = .returned u ∧ CpuAt w' w.heap.size u zeroM ∧ Below w.heap.size w w' := by
  have B2 : Below w.heap.size w ((w.alloc (.cells #[.slice a len cap, .int .i64 d, .int .i64 bd] 25)).alloc (.cells #[.slice none 0 0, .int .u32 0, .slice none 0 0, .slice none 0 0, .slice none 0 0, .slice none 0 0, .int .u32 0, .int .i64 0] 32)) := ((Below.refl _ _).alloc (Nat.le_refl _) _).alloc (by simp) _
  have HBO := boot_s a len cap d bd v zs ((w.alloc (.cells #[.slice a len cap, .int .i64 d, .int .i64 bd] 25)).alloc (.cells #[.slice none 0 0, .int .u32 0, .slice none 0 0, .slice none 0 0, .slice none 0 0, .slice none 0 0, .int .u32 0, .int .i64 0] 32)) hl hz (h.below B2) hnil
  have hcod := hc.below B2
  have hll := lis_len hc
  have hcb : ∀ g ∈ blk (.slice a len cap), g < w.heap.size := hc.lt
  have hbm : bootM len d bd zs = zeroM := by unfold bootM; rw [hv]; rfl
  rw [hbm] at HBO
  have HQ : Hid _ := And.intro HBO (And.intro hcod B2)
  clear HBO hcod B2 h hc hz hnil hcu hl
  clear hv hbm hcb hll
  go_enter Try.func9, Try.ntmps9
  go_wp2_with fail
  refine HQ.out.1.mono ?_
  rintro e w1 ⟨u1, rfl, hA, hb1⟩
  obtain ⟨r, dd, s, i, o, rfl, hr, hd, hs, hi, ho, hnd, hB, hk⟩ := hA
  obtain ⟨e1, f1, rfl⟩ := hr.len0
  obtain ⟨e2, f2, rfl⟩ := hd.len0
  obtain ⟨e3, f3, rfl⟩ := hs.len0
  obtain ⟨e4, f4, rfl⟩ := hi.len0
  obtain ⟨e5, f5, rfl⟩ := own_slice ho
  rw [show zeroM.regs.length = 0 from rfl, show zeroM.data.length = 0 from rfl, show zeroM.stack.length = 0 from rfl, show zeroM.inn.length = 0 from rfl, show zeroM.out.length = 0 from rfl, show zeroM.pc = 0 from rfl, show zeroM.low = 0 from rfl, show zeroM.st = 0 from rfl]
  have zz := hb1.size
  simp only [World.size_alloc] at zz
  have R1 : w1.heap[w.heap.size + 1]? = some (.cells #[.slice none 0 0, .int .u32 0, .slice none 0 0, .slice none 0 0, .slice none 0 0, .slice none 0 0, .int .u32 0, .int .i64 0] 32) := by
    rw [hb1.block _ (by simp)]
    have := heap_alloc_new (w.alloc (.cells #[.slice a len cap, .int .i64 d, .int .i64 bd] 25)) (.cells #[.slice none 0 0, .int .u32 0, .slice none 0 0, .slice none 0 0, .slice none 0 0, .slice none 0 0, .int .u32 0, .int .i64 0] 32)
    simpa only [World.size_alloc] using this
  have BW1 : Below w.heap.size w w1 := HQ.out.2.2.trans (hb1.mono (by simp; omega))
  have HV : Hid _ := And.intro R1 BW1
  clear R1 BW1 hb1 HQ hr hd hs hi ho hnd hB hk
  dsimp only
  go_upto_region 2 with fail
  obtain ⟨W, hW⟩ : ∃ W, W = w1.alloc (.cells #[.slice e1 0 f1, .int .u32 0, .slice e2 0 f2, .slice e3 0 f3, .slice e4 0 f4, .slice e5 0 f5, .int .u32 0, .int .i64 0] 32) := ⟨_, rfl⟩
  rw [← hW]
  have X1 : W.heap[w1.heap.size]? = some (.cells #[.slice e1 0 f1, .int .u32 0, .slice e2 0 f2, .slice e3 0 f3, .slice e4 0 f4, .slice e5 0 f5, .int .u32 0, .int .i64 0] 32) := by rw [hW]; exact heap_alloc_new w1 _
  have AW : Below w1.heap.size w1 W := by rw [hW]; exact (Below.refl _ _).alloc (Nat.le_refl _) _
  have R2 := (AW.block _ (by omega)).trans HV.out.1
  have B9 := Bx.of_heap X1
  have RB := Bx.of_heap R2
  obtain ⟨t0, t1, t2, t3, t4, t5, t6, t7, tf⟩ := id B9
  obtain ⟨z0, z1, z2, z3, z4, z5, z6, z7, zf⟩ := id RB
  have HW : Hid _ := HV.out.2.trans (AW.mono (by omega))
  clear X1 AW hW B9 RB R2
  go_wp2
  refine bodyPost_ret (v := .agg #[.slice none 0 0, .int .u32 0, .slice none 0 0, .slice none 0 0, .slice none 0 0, .slice none 0 0, .int .u32 0, .int .i64 0]) (by simp [results, Try.results9, go_sem, z0, z1, z2, z3, z4, z5, z6, z7]) rfl ?_
  exact ⟨_, rfl, cpu_zero _ _, ((Tcs.refl (fun k => k = w.heap.size + 1) _).set8 _ rfl (.slice none 0 0) (.int .u32 0) (.slice none 0 0) (.slice none 0 0) (.slice none 0 0) (.slice none 0 0) (.int .u32 0) (.int .i64 0)).below HW.out HW.out.size (by rintro k rfl; omega)⟩


set_option maxRecDepth 8000 in
set_option maxHeartbeats 1000000 in
theorem run_s_out (a : Option Addr) (len cap : Nat) (d bd : Int) (v : Value) (zs codes : List Int) (w : World) (hl : len ≤ 1048576) (hz : zs.length ≤ 2097152) (h : Lis .i64 w v zs) (hnil : v = .slice none 0 0 ∨ ∃ ad m c, v = .slice (some ad) m c) (hc : Lis .u32 w (.slice a len cap) codes) (hcu : ∀ j, j < codes.length → 0 ≤ codes.getD j 0 ∧ codes.getD j 0 ≤ 4294967295) (steps : Int) (hst : ¬ (0 ≤ steps ∧ steps ≤ 1000000)) (hv : vimg len d bd = true) (ho : okIn zs = true) :
    Calls Try.prog 9 #[.agg #[.slice a len cap, .int .i64 d, .int .i64 bd], v, .int .i64 steps] w fun e w' => ∃ u, e = .returned u ∧ CpuAt w' w.heap.size u zeroM ∧ Below w.heap.size w w' := by
  have B2 : Below w.heap.size w ((w.alloc (.cells #[.slice a len cap, .int .i64 d, .int .i64 bd] 25)).alloc (.cells #[.slice none 0 0, .int .u32 0, .slice none 0 0, .slice none 0 0, .slice none 0 0, .slice none 0 0, .int .u32 0, .int .i64 0] 32)) := ((Below.refl _ _).alloc (Nat.le_refl _) _).alloc (by simp) _
  have HBO := boot_s a len cap d bd v zs ((w.alloc (.cells #[.slice a len cap, .int .i64 d, .int .i64 bd] 25)).alloc (.cells #[.slice none 0 0, .int .u32 0, .slice none 0 0, .slice none 0 0, .slice none 0 0, .slice none 0 0, .int .u32 0, .int .i64 0] 32)) hl hz (h.below B2) hnil
  have hcod := hc.below B2
  have hll := lis_len hc
  have hcb : ∀ g ∈ blk (.slice a len cap), g < w.heap.size := hc.lt
  obtain ⟨hG0, hst0, hmb0, hl2⟩ := boot_good len d bd zs hv ho
  generalize bootM len d bd zs = c0 at *
  have hin : inB steps 0 1000000 = false := by unfold inB; simp; omega
  have HQ : Hid _ := And.intro HBO (And.intro hcod B2)
  clear HBO hcod B2 h hc hz hnil hcu hl
  have HG : Hid _ := And.intro hG0 hst
  clear hG0 hst0 hmb0 hl2 hst hv ho hcb hll
  go_enter Try.func9, Try.ntmps9
  go_wp2_with fail
  refine HQ.out.1.mono ?_
  rintro e w1 ⟨u1, rfl, hA, hb1⟩
  obtain ⟨L, cv, hLB⟩ := hA.toV
  obtain ⟨g2, o2, q1, m2, m3, m4, m5, p2, q2, p3, q3, p4, q4, p5, q5, rfl, hbk2⟩ := cv.shape32 HG.out.1.r32
  have zz := hb1.size
  simp only [World.size_alloc] at zz
  have R1 : w1.heap[w.heap.size + 1]? = some (.cells #[.slice none 0 0, .int .u32 0, .slice none 0 0, .slice none 0 0, .slice none 0 0, .slice none 0 0, .int .u32 0, .int .i64 0] 32) := by
    rw [hb1.block _ (by simp)]
    have := heap_alloc_new (w.alloc (.cells #[.slice a len cap, .int .i64 d, .int .i64 bd] 25)) (.cells #[.slice none 0 0, .int .u32 0, .slice none 0 0, .slice none 0 0, .slice none 0 0, .slice none 0 0, .int .u32 0, .int .i64 0] 32)
    simpa only [World.size_alloc] using this
  have BW1 : Below w.heap.size w w1 := HQ.out.2.2.trans (hb1.mono (by simp; omega))
  have HV : Hid _ := And.intro R1 BW1
  clear R1 BW1 hA hb1 HQ cv hLB hbk2
  dsimp only
  go_upto_region 2 with fail
  obtain ⟨W, hW⟩ : ∃ W, W = w1.alloc (.cells #[.slice (some ⟨g2, o2, none⟩) 32 q1, .int .u32 c0.pc, .slice p2 m2 q2, .slice p3 m3 q3, .slice p4 m4 q4, .slice p5 m5 q5, .int .u32 c0.low, .int .i64 c0.st] 32) := ⟨_, rfl⟩
  rw [← hW]
  have X1 : W.heap[w1.heap.size]? = some (.cells #[.slice (some ⟨g2, o2, none⟩) 32 q1, .int .u32 c0.pc, .slice p2 m2 q2, .slice p3 m3 q3, .slice p4 m4 q4, .slice p5 m5 q5, .int .u32 c0.low, .int .i64 c0.st] 32) := by rw [hW]; exact heap_alloc_new w1 _
  have AW : Below w1.heap.size w1 W := by rw [hW]; exact (Below.refl _ _).alloc (Nat.le_refl _) _
  have R2 := (AW.block _ (by omega)).trans HV.out.1
  have B9 := Bx.of_heap X1
  have RB := Bx.of_heap R2
  obtain ⟨t0, t1, t2, t3, t4, t5, t6, t7, tf⟩ := id B9
  obtain ⟨z0, z1, z2, z3, z4, z5, z6, z7, zf⟩ := id RB
  have HW : Hid _ := HV.out.2.trans (AW.mono (by omega))
  clear X1 AW hW B9 RB R2
  go_wp2_with (first
    | (go_at_call 32; refine (in_any _ _ _ _).mono ?_; rintro e w' ⟨rfl, rfl⟩; rw [hin]))
  refine bodyPost_ret (v := .agg #[.slice none 0 0, .int .u32 0, .slice none 0 0, .slice none 0 0, .slice none 0 0, .slice none 0 0, .int .u32 0, .int .i64 0]) (by simp [results, Try.results9, go_sem, z0, z1, z2, z3, z4, z5, z6, z7]) rfl ?_
  exact ⟨_, rfl, cpu_zero _ _, ((Tcs.refl (fun k => k = w.heap.size + 1) _).set8 _ rfl (.slice none 0 0) (.int .u32 0) (.slice none 0 0) (.slice none 0 0) (.slice none 0 0) (.slice none 0 0) (.int .u32 0) (.int .i64 0)).below HW.out HW.out.size (by rintro k rfl; omega)⟩


def stepsOk (s : Int) : Bool := decide (0 ≤ s ∧ s ≤ 1000000)
def runRes (n : Nat) (d b : Int) (zs codes : List Int) (s : Int) : Mc := if (vimg n d b && okIn zs) = true then (if stepsOk s = true then runM codes b (bootM n d b zs) s.toNat else zeroM) else zeroM
theorem run_s (a : Option Addr) (len cap : Nat) (d bd : Int) (v : Value) (zs codes : List Int) (w : World) (hl : len ≤ 1048576) (hz : zs.length ≤ 2097152) (h : Lis .i64 w v zs) (hnil : v = .slice none 0 0 ∨ ∃ ad m c, v = .slice (some ad) m c) (hc : Lis .u32 w (.slice a len cap) codes) (hcu : ∀ j, j < codes.length → 0 ≤ codes.getD j 0 ∧ codes.getD j 0 ≤ 4294967295) (steps : Int) :
    Calls Try.prog 9 #[.agg #[.slice a len cap, .int .i64 d, .int .i64 bd], v, .int .i64 steps] w fun e w' => ∃ u, e = .returned u ∧ CpuAt w' w.heap.size u (runRes len d bd zs codes steps) ∧ Below w.heap.size w w' := by
  unfold runRes
  split
  · rename_i hv
    simp only [Bool.and_eq_true] at hv
    split
    · rename_i hs
      unfold stepsOk at hs
      simp only [decide_eq_true_eq] at hs
      obtain ⟨N, rfl⟩ := Int.eq_ofNat_of_zero_le hs.1
      exact run_s_yes a len cap d bd v zs codes w hl hz h hnil hc hcu N (by omega) hv.1 hv.2
    · rename_i hs
      unfold stepsOk at hs
      simp only [decide_eq_true_eq] at hs
      exact run_s_out a len cap d bd v zs codes w hl hz h hnil hc hcu steps hs hv.1 hv.2
  · rename_i hv
    exact run_s_no a len cap d bd v zs codes w hl hz h hnil hc hcu steps (by simpa using hv)

end Go.Proofs.Ytabjcodpagjbjaa

namespace Go.Proofs.Ytabjcodpagjbjaa
open Go.RowKit
set_option linter.unusedSectionVars false
variable [Inhabited Pick]
theorem wrds_of {zs : List Int} (h : ∀ j, j < zs.length → -2147483648 ≤ zs.getD j 0 ∧ zs.getD j 0 ≤ 2147483647) : wrds zs = true := by
  unfold wrds
  rw [List.all_eq_true]
  intro x hx
  obtain ⟨j, hj, rfl⟩ := List.getElem_of_mem hx
  have := h j hj
  simp only [List.getD, List.getElem?_eq_getElem hj, Option.getD_some] at this
  unfold wrd
  simp only [decide_eq_true_eq]
  omega
theorem good_back {d b : Int} {c : Mc} (hG : Good c) (hd : (c.data.length : Int) = d) (hb : (c.stack.length : Int) = b) : goodB d b c = true := by
  have h1 := wrds_of hG.iu
  have h2 := wrds_of hG.ou
  have h3 := hG.il
  have h4 := hG.ol
  refine decide_eq_true ⟨hG.r32, hG.r0, hd, hb, ?_, by omega, h2, hG.st.1, hG.st.2⟩
  unfold okIn
  simp only [Bool.and_eq_true, decide_eq_true_eq]
  exact ⟨by omega, h1⟩
theorem step_run (n : Nat) (d b : Int) (zs codes : List Int) (hl : n = codes.length) (hcu : ∀ j, j < codes.length → 0 ≤ codes.getD j 0 ∧ codes.getD j 0 ≤ 4294967295) (k : Nat) (hv : (vimg n d b && okIn zs) = true) (h1 : stepsOk k = true) (h2 : stepsOk (k + 1) = true) :
    stepRes n d b codes (runRes n d b zs codes k) = runRes n d b zs codes (k + 1) := by
  have hv' := hv
  simp only [Bool.and_eq_true] at hv'
  obtain ⟨hG, hst, hmb, hn⟩ := boot_good n d b zs hv'.1 hv'.2
  obtain ⟨g1, g2, g3⟩ := runM_good codes b (bootM n d b zs) hG hmb ⟨by omega, hcu⟩ k
  have hd : ((bootM n d b zs).data.length : Int) = d := by
    unfold bootM
    rw [if_pos hv]
    have h0 := hv'.1
    unfold vimg at h0
    simp only [decide_eq_true_eq] at h0
    simp only [List.length_replicate]
    omega
  unfold runRes
  rw [if_pos hv, if_pos h1, if_pos hv, if_pos h2]
  have e1 : ((k : Int)).toNat = k := by omega
  have e2 : ((k : Int) + 1).toNat = k + 1 := by omega
  rw [e1, e2]
  unfold stepRes
  rw [if_pos (by rw [hv'.1, good_back g1 (by rw [g2]; exact hd) (by rw [g3]; exact hmb.symm)]; rfl)]
  rfl
end Go.Proofs.Ytabjcodpagjbjaa
