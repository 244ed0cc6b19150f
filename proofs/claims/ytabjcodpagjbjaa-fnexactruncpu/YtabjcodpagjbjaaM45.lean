import Derived.Deep.Cut
import Derived.Handy
import Derived.Test.YtabjcodpagjbjaaM43
import Derived.Test.YtabjcodpagjbjaaM04
import Derived.Test.YtabjcodpagjbjaaM23
import Derived.Deep.RegionHeld3
import Derived.Deep.RegionLaw
import Derived.Test.YtabjcodpagjbjaaM44
import Derived.Test.YtabjcodpagjbjaaM03
namespace Go.Proofs.Ytabjcodpagjbjaa
open Go.RowKit
set_option linter.unusedVariables false
set_option linter.unusedSectionVars false
set_option linter.unusedSimpArgs false
variable [Inhabited Pick]

theorem own_base {W : World} {B B' e n : Nat} {v : Value} {xs : List Value} (h : W.ownsRow B e 1 v n xs) (hb : ∀ g ∈ obk v, B' ≤ g) : W.ownsRow B' e 1 v n xs := by
  refine ⟨h.1, ?_⟩
  rcases h.2 with h0 | ⟨g, cap, cur, rfl, hbg, hr⟩
  · exact .inl h0
  · exact .inr ⟨g, cap, cur, rfl, hb g (by simp [obk]), hr⟩
theorem CpuAt.toV {w : World} {B : Nat} {v : Value} {c : Mc} (h : CpuAt w B v c) : ∃ L, CpuV w v L c ∧ ∀ g ∈ L, B ≤ g := by
  obtain ⟨r, d, s, i, o, rfl, hr, hd, hs, hi, ho, hnd, hB, hk⟩ := h
  exact ⟨_, ⟨r, d, s, i, o, rfl, hr, hd, hs, hi, own_mono ho (Nat.zero_le _), hk, rfl, hnd⟩, hB⟩
theorem CpuV.toAt {w : World} {B : Nat} {v : Value} {L : List Nat} {c : Mc} (h : CpuV w v L c) (hB : ∀ g ∈ L, B ≤ g) : CpuAt w B v c := by
  obtain ⟨r, d, s, i, o, rfl, hr, hd, hs, hi, ho, hk, rfl, hnd⟩ := h
  exact ⟨r, d, s, i, o, rfl, hr, hd, hs, hi, own_base ho (fun g hg => hB g (by simp [hg])), hnd, hB, hk⟩
theorem getD_rep (n j : Nat) : (List.replicate n (0 : Int)).getD j 0 = 0 := by
  simp only [List.getD_eq_getElem?_getD, List.getElem?_replicate]
  split <;> rfl
theorem boot_good (n : Nat) (d b : Int) (zs : List Int) (hv : vimg n d b = true) (ho : okIn zs = true) :
    Good (bootM n d b zs) ∧ (bootM n d b zs).st = 0 ∧ b = ((bootM n d b zs).stack.length : Int) ∧ n ≤ 20000 := by
  unfold bootM
  rw [hv, ho]
  simp only [Bool.and_self, if_true]
  unfold vimg at hv
  simp only [decide_eq_true_eq] at hv
  unfold okIn at ho
  simp only [Bool.and_eq_true, decide_eq_true_eq] at ho
  have hw := ho.2
  unfold wrds at hw
  rw [List.all_eq_true] at hw
  refine ⟨{ r32 := rfl, ru := ?_, r0 := rfl, pcu := by dsimp only; omega, lou := by dsimp only; omega, dl := by simp; omega, du := ?_, sl := by simp; omega, su := ?_, il := ho.1, iu := ?_, ol := by simp, ou := (fun j hj => absurd hj (by simp)), st := by dsimp only; omega }, by trivial, by simp; omega, hv.2.1⟩
  · intro j hj
    have : ∀ j, j < 32 → 0 ≤ regs0.getD j 0 ∧ regs0.getD j 0 ≤ 4294967295 := by decide
    exact this j hj
  · intro j hj
    dsimp only
    rw [getD_rep]
    omega
  · intro j hj
    dsimp only
    rw [getD_rep]
    omega
  · intro j hj
    dsimp only at hj ⊢
    have := hw (zs.getD j 0) (by simp [List.getD, hj])
    unfold wrd at this
    simpa using this


def RInv (w wr : World) (Cb : Nat) (mo ro : Obj) (cv : Value) (codes : List Int) (c : Mc) : Prop :=
  ∃ r d s i o L, Bx wr Cb r (.int .u32 c.pc) d s i o (.int .u32 c.low) (.int .i64 c.st) ∧ CpuV wr (.agg #[r, .int .u32 c.pc, d, s, i, o, .int .u32 c.low, .int .i64 c.st]) L c ∧ (∀ g ∈ L, w.heap.size + 1 < g ∧ g ≠ Cb) ∧
    wr.heap[w.heap.size]? = some mo ∧ wr.heap[w.heap.size + 1]? = some ro ∧ Lis .u32 wr cv codes ∧ (∀ g ∈ blk cv, g < w.heap.size) ∧ Below w.heap.size w wr ∧ w.heap.size + 1 < Cb


set_option maxRecDepth 8000 in
set_option maxHeartbeats 1000000 in
theorem run_s_yes (a : Option Addr) (len cap : Nat) (d bd : Int) (v : Value) (zs codes : List Int) (w : World) (hl : len ≤ 1048576) (hz : zs.length ≤ 2097152) (h : Lis .i64 w v zs) (hnil : v = .slice none 0 0 ∨ ∃ ad m c, v = .slice (some ad) m c) (hc : Lis .u32 w (.slice a len cap) codes) (hcu : ∀ j, j < codes.length → 0 ≤ codes.getD j 0 ∧ codes.getD j 0 ≤ 4294967295) (N : Nat) (hN : N ≤ 1000000) (hv : vimg len d bd = true) (ho : okIn zs = true) :
    Calls Try.prog 9 #[.agg #[.slice a len cap, .int .i64 d, .int .i64 bd], v, .int .i64 N] w fun e w' => ∃ u, e = .returned u ∧ CpuAt w' w.heap.size u (runM codes bd (bootM len d bd zs) N) ∧ Below w.heap.size w w' := by
  have B2 : Below w.heap.size w ((w.alloc (.cells #[.slice a len cap, .int .i64 d, .int .i64 bd] 25)).alloc (.cells #[.slice none 0 0, .int .u32 0, .slice none 0 0, .slice none 0 0, .slice none 0 0, .slice none 0 0, .int .u32 0, .int .i64 0] 32)) := ((Below.refl _ _).alloc (Nat.le_refl _) _).alloc (by simp) _
  have HBO := boot_s a len cap d bd v zs ((w.alloc (.cells #[.slice a len cap, .int .i64 d, .int .i64 bd] 25)).alloc (.cells #[.slice none 0 0, .int .u32 0, .slice none 0 0, .slice none 0 0, .slice none 0 0, .slice none 0 0, .int .u32 0, .int .i64 0] 32)) hl hz (h.below B2) hnil
  have hcod := hc.below B2
  have hll := lis_len hc
  have hcb : ∀ g ∈ blk (.slice a len cap), g < w.heap.size := hc.lt
  obtain ⟨hG0, hst0, hmb0, hl2⟩ := boot_good len d bd zs hv ho
  have hco : CodesOk codes := ⟨by omega, hcu⟩
  generalize bootM len d bd zs = c0 at *
  have hNI : (N : Int) ≤ 1000000 := by omega
  have HQ : Hid _ := And.intro HBO (And.intro hcod B2)
  clear HBO hcod B2 h hc hz hnil hcu hl
  have HG : Hid _ := And.intro hG0 (And.intro hst0 (And.intro hmb0 (And.intro hl2 (And.intro hN (And.intro hll hco)))))
  clear hG0 hst0 hmb0 hl2 hll hN hco hv ho
  go_enter Try.func9, Try.ntmps9
  go_wp2_with fail
  refine HQ.out.1.mono ?_
  rintro e w1 ⟨u1, rfl, hA, hb1⟩
  obtain ⟨L, cv, hLB⟩ := hA.toV
  obtain ⟨g2, o2, q1, m2, m3, m4, m5, p2, q2, p3, q3, p4, q4, p5, q5, rfl, hbk2⟩ := cv.shape32 HG.out.1.r32
  have zz := hb1.size
  simp only [World.size_alloc] at zz hLB
  have M1 : w1.heap[w.heap.size]? = some (.cells #[.slice a len cap, .int .i64 d, .int .i64 bd] 25) := by
    rw [hb1.block _ (by simp; omega), Below.heap_alloc _ _ _ (by simp)]
    exact heap_alloc_new _ _
  have R1 : w1.heap[w.heap.size + 1]? = some (.cells #[.slice none 0 0, .int .u32 0, .slice none 0 0, .slice none 0 0, .slice none 0 0, .slice none 0 0, .int .u32 0, .int .i64 0] 32) := by
    rw [hb1.block _ (by simp)]
    have := heap_alloc_new (w.alloc (.cells #[.slice a len cap, .int .i64 d, .int .i64 bd] 25)) (.cells #[.slice none 0 0, .int .u32 0, .slice none 0 0, .slice none 0 0, .slice none 0 0, .slice none 0 0, .int .u32 0, .int .i64 0] 32)
    simpa only [World.size_alloc] using this
  have hcod1 := HQ.out.2.1.below hb1
  have BW1 : Below w.heap.size w w1 := HQ.out.2.2.trans (hb1.mono (by simp; omega))
  have hlt := cv.lt
  have HV : Hid _ := And.intro cv (And.intro hLB (And.intro M1 (And.intro R1 (And.intro hcod1 (And.intro BW1 hlt)))))
  clear cv hLB M1 R1 hcod1 BW1 hlt hA hb1 HQ hbk2
  dsimp only
  go_upto_region 2 with fail
  obtain ⟨W, hW⟩ : ∃ W, W = w1.alloc (.cells #[.slice (some ⟨g2, o2, none⟩) 32 q1, .int .u32 c0.pc, .slice p2 m2 q2, .slice p3 m3 q3, .slice p4 m4 q4, .slice p5 m5 q5, .int .u32 c0.low, .int .i64 c0.st] 32) := ⟨_, rfl⟩
  rw [← hW]
  obtain ⟨cv, hLB, M1, R1, hcod1, BW1, hlt⟩ := HV.out
  have X1 : W.heap[w1.heap.size]? = some (.cells #[.slice (some ⟨g2, o2, none⟩) 32 q1, .int .u32 c0.pc, .slice p2 m2 q2, .slice p3 m3 q3, .slice p4 m4 q4, .slice p5 m5 q5, .int .u32 c0.low, .int .i64 c0.st] 32) := by rw [hW]; exact heap_alloc_new w1 _
  have AW : Below w1.heap.size w1 W := by rw [hW]; exact (Below.refl _ _).alloc (Nat.le_refl _) _
  have zW : W.heap.size = w1.heap.size + 1 := by rw [hW]; simp
  have B9 := Bx.of_heap X1
  obtain ⟨t0, t1, t2, t3, t4, t5, t6, t7, tf⟩ := id B9
  have HI : Hid (RInv w W w1.heap.size (.cells #[.slice a len cap, .int .i64 d, .int .i64 bd] 25) (.cells #[.slice none 0 0, .int .u32 0, .slice none 0 0, .slice none 0 0, .slice none 0 0, .slice none 0 0, .int .u32 0, .int .i64 0] 32) (.slice a len cap) codes (runM codes bd c0 0)) :=
    ⟨_, _, _, _, _, L, B9, cv.below AW, fun g hg => ⟨by have := hLB g hg; omega, by have := hlt g hg; omega⟩, (AW.block _ (by omega)).trans M1, (AW.block _ (by omega)).trans R1, hcod1.below AW, hcb, BW1.trans (AW.mono (by omega)), by omega⟩
  clear cv hLB M1 R1 hcod1 BW1 hlt X1 AW hW B9 HV
  have hin : inB (N : Int) 0 1000000 = true := by unfold inB; simp; omega
  go_wp2_with (first
    | (go_at_call 32; refine (in_any _ _ _ _).mono ?_; rintro e w' ⟨rfl, rfl⟩; rw [hin]))
  clear t0 t1 t2 t3 t4 t5 t6 t7 tf
  go_loopw [8] (fun i wr => ∃ n : Nat, n ≤ N ∧ i = .int .i64 n ∧ RInv w wr w1.heap.size (.cells #[.slice a len cap, .int .i64 d, .int .i64 bd] 25) (.cells #[.slice none 0 0, .int .u32 0, .slice none 0 0, .slice none 0 0, .slice none 0 0, .slice none 0 0, .int .u32 0, .int .i64 0] 32) (.slice a len cap) codes (runM codes bd c0 n)) (fun i _ => N - (intOf i).toNat)
  case atStart => exact ⟨0, Nat.zero_le _, rfl, HI.out⟩
  case round =>
    obtain ⟨n, hn, rfl, hR⟩ := hrel
    have hG := runM_good codes bd c0 HG.out.1 HG.out.2.2.1 HG.out.2.2.2.2.2.2 n
    have hE : runM codes bd c0 N = runM codes bd c0 n ∨ (n < N ∧ (runM codes bd c0 n).st = 0) := by
      by_cases h1 : n < N
      · by_cases h2 : (runM codes bd c0 n).st = 0
        · exact .inr ⟨h1, h2⟩
        · refine .inl ?_
          rw [show N = n + (N - n) by omega]
          exact runM_stop codes bd c0 n h2 _
      · obtain rfl : n = N := by omega
        exact .inl rfl
    have hx : ¬ (n < N ∧ (runM codes bd c0 n).st = 0) ∨ StepIs codes bd (runM codes bd c0 n) (runM codes bd c0 (n + 1)) := by
      by_cases h2 : (runM codes bd c0 n).st = 0
      · refine .inr ?_
        rw [show runM codes bd c0 (n + 1) = (if (runM codes bd c0 n).st = 0 then nextM codes bd (runM codes bd c0 n) else runM codes bd c0 n) from rfl, if_pos h2]
        exact nextM_ok codes bd _ hG.1 h2 (by rw [hG.2.2]; exact HG.out.2.2.1) HG.out.2.2.2.2.2.2
      · exact .inl (fun h => h2 h.2)
    have HP : Hid _ := And.intro hE hx
    clear hE hx HI
    generalize hnx : runM codes bd c0 (n + 1) = nx at *
    generalize hcc : runM codes bd c0 n = c at *
    obtain ⟨r, dd, s, i, o, L, hB, hcv, hL, hM, hRo, hco, hcbk, hBW, hCb⟩ := hR
    obtain ⟨k1, k2, k3, k4, k5, a1, b1, a2, b2, a3, b3, a4, b4, a5, b5, hsh⟩ := hcv.shape
    simp only [Value.agg.injEq, Array.mk.injEq, List.cons.injEq, and_true, true_and] at hsh
    obtain ⟨rfl, rfl, rfl, rfl, rfl⟩ := hsh
    obtain ⟨t0, t1, t2, t3, t4, t5, t6, t7, tf⟩ := id hB
    have mm0 := cell_of hM (j := 0) rfl
    have mm1 := cell_of hM (j := 1) rfl
    have mm2 := cell_of hM (j := 2) rfl
    have RB := Bx.of_heap hRo
    have HS : Hid _ := And.intro hB (And.intro hcv (And.intro hL (And.intro hM (And.intro hRo (And.intro hco (And.intro hcbk (And.intro hBW hCb)))))))
    clear hB hcv hL hM hRo hco hcbk hBW
    have hnI : (n : Int) ≤ (N : Int) := by omega
    by_cases hgo : n < N ∧ c.st = 0
    · have hlt : (n : Int) < (N : Int) := by omega
      have hst : (c.st == 0) = true := by rw [hgo.2]; rfl
      have HC : Hid _ := HS.out.2.1
      have hstep := (HP.out.2.resolve_left (fun h => h hgo)).2.1
      have HN : Hid _ := And.intro hgo (HP.out.2.resolve_left (fun h => h hgo))
      clear hgo hstep RB
      go_wp2_with fail
      refine ((HN.out.2).2.1 a len cap d _ L wr HS.out.2.1 HS.out.2.2.2.2.2.1).mono ?_
      rintro e w2 ⟨u2, rfl, L', cv2, hm2, ht2⟩
      obtain ⟨j1, j2, j3, j4, j5, e1, f1, e2, f2, e3, f3, e4, f4, e5, f5, rfl⟩ := cv2.shape
      have hL := HS.out.2.2.1
      have CB2 := HS.out.1.keep (ht2.block w1.heap.size HS.out.1.lt (fun e => (hL _ e).2 rfl))
      clear t0 t1 t2 t3 t4 t5 t6 t7 tf mm0 mm1 mm2
      obtain ⟨t0, t1, t2, t3, t4, t5, t6, t7, tf⟩ := id CB2
      have HV2 : Hid _ := And.intro cv2 (And.intro hm2 (And.intro ht2 CB2))
      clear cv2 hm2 ht2 CB2 hL HC
      dsimp only
      go_wp2
      go_roundw
      case rel =>
        obtain ⟨cv2, hm2, ht2, CB2⟩ := HV2.out
        obtain ⟨hB, hcv, hL, hM, hRo, hco, hcbk, hBW, hCb⟩ := HS.out
        have hbl := hB.lt
        have TR := (Tcs.refl (fun k => k = w1.heap.size) w2).set8 _ rfl (.slice e1 j1 f1) (.int .u32 nx.pc) (.slice e2 j2 f2) (.slice e3 j3 f3) (.slice e4 j4 f4) (.slice e5 j5 f5) (.int .u32 nx.low) (.int .i64 nx.st)
        have s2 := ht2.size
        have hL' : ∀ g ∈ L', w.heap.size + 1 < g ∧ g ≠ w1.heap.size := fun g hg => by
          rcases hm2 g hg with h | h
          · exact hL g h
          · omega
        refine ⟨n + 1, by have := HN.out.1; omega, by go_num, ?_⟩
        rw [hnx]
        refine ⟨_, _, _, _, _, L', CB2.set8 (.slice e1 j1 f1) (.int .u32 nx.pc) (.slice e2 j2 f2) (.slice e3 j3 f3) (.slice e4 j4 f4) (.slice e5 j5 f5) (.int .u32 nx.low) (.int .i64 nx.st), cv2.tcs TR (fun g hg e => (hL' g hg).2 e), hL', ?_, ?_, ?_, hcbk, ?_, hCb⟩
        · exact (TR.block _ (by have := hBW.size; omega) (by omega)).trans ((ht2.block _ (by omega) (fun e => by have := hL _ e; omega)).trans hM)
        · exact (TR.block _ (by omega) (by omega)).trans ((ht2.block _ (by omega) (fun e => by have := hL _ e; omega)).trans hRo)
        · exact (hco.tcs ht2 (fun g hg e => by have := hcbk g hg; have := hL _ e; omega)).tcs TR (fun g hg e => by have := hcbk g hg; omega)
        · exact TR.below (ht2.below hBW hBW.size (fun k hk => by have := hL k hk; omega)) (by have := hBW.size; omega) (by rintro k rfl; omega)
      case measure => have := HN.out.1; simp [intOf]; omega
    · have HN : Hid _ := HP.out.1.resolve_right hgo
      obtain ⟨z0, z1, z2, z3, z4, z5, z6, z7, zf⟩ := id RB
      by_cases h1 : n < N
      · have hlt : (n : Int) < (N : Int) := by omega
        have hst : (c.st == 0) = false := by simp; intro h; exact hgo ⟨h1, h⟩
        clear hgo RB h1
        go_wp2
        refine bodyPost_ret (v := .agg #[.slice a1 k1 b1, .int .u32 c.pc, .slice a2 k2 b2, .slice a3 k3 b3, .slice a4 k4 b4, .slice a5 k5 b5, .int .u32 c.low, .int .i64 c.st]) (by simp [results, Try.results9, go_sem, z0, z1, z2, z3, z4, z5, z6, z7]) rfl ?_
        obtain ⟨hB, hcv, hL, hM, hRo, hco, hcbk, hBW, hCb⟩ := HS.out
        rw [HN.out]
        have TR := (Tcs.refl (fun k => k = w.heap.size + 1) wr).set8 _ rfl (.slice a1 k1 b1) (.int .u32 c.pc) (.slice a2 k2 b2) (.slice a3 k3 b3) (.slice a4 k4 b4) (.slice a5 k5 b5) (.int .u32 c.low) (.int .i64 c.st)
        exact ⟨_, rfl, (hcv.tcs TR (fun g hg e => by have := hL g hg; omega)).toAt (fun g hg => by have := hL g hg; omega), TR.below hBW hBW.size (by rintro k rfl; omega)⟩
      · have hge : ¬ (n : Int) < (N : Int) := by omega
        clear hgo RB h1
        go_wp2
        refine bodyPost_ret (v := .agg #[.slice a1 k1 b1, .int .u32 c.pc, .slice a2 k2 b2, .slice a3 k3 b3, .slice a4 k4 b4, .slice a5 k5 b5, .int .u32 c.low, .int .i64 c.st]) (by simp [results, Try.results9, go_sem, z0, z1, z2, z3, z4, z5, z6, z7]) rfl ?_
        obtain ⟨hB, hcv, hL, hM, hRo, hco, hcbk, hBW, hCb⟩ := HS.out
        rw [HN.out]
        have TR := (Tcs.refl (fun k => k = w.heap.size + 1) wr).set8 _ rfl (.slice a1 k1 b1) (.int .u32 c.pc) (.slice a2 k2 b2) (.slice a3 k3 b3) (.slice a4 k4 b4) (.slice a5 k5 b5) (.int .u32 c.low) (.int .i64 c.st)
        exact ⟨_, rfl, (hcv.tcs TR (fun g hg e => by have := hL g hg; omega)).toAt (fun g hg => by have := hL g hg; omega), TR.below hBW hBW.size (by rintro k rfl; omega)⟩

end Go.Proofs.Ytabjcodpagjbjaa

namespace Go.Proofs.Ytabjcodpagjbjaa
open Go.RowKit
set_option linter.unusedVariables false
set_option linter.unusedSectionVars false
set_option linter.unusedSimpArgs false
variable [Inhabited Pick]

set_option maxRecDepth 8000 in
set_option maxHeartbeats 1000000 in
theorem run_s_no (a : Option Addr) (len cap : Nat) (d bd : Int) (v : Value) (zs codes : List Int) (w : World) (hl : len ≤ 1048576) (hz : zs.length ≤ 2097152) (h : Lis .i64 w v zs) (hnil : v = .slice none 0 0 ∨ ∃ ad m c, v = .slice (some ad) m c) (hc : Lis .u32 w (.slice a len cap) codes) (hcu : ∀ j, j < codes.length → 0 ≤ codes.getD j 0 ∧ codes.getD j 0 ≤ 4294967295) (steps : Int) (hv : (vimg len d bd && okIn zs) = false) :
    Calls Try.prog 9 #[.agg #[.slice a len cap, .int .i64 d, .int .i64 bd], v, .int .i64 steps] w fun e w' => ∃ u, e = .returned u ∧ CpuAt w' w.heap.size u zeroM ∧ Below w.heap.size w w' := by
  have B2 : Below w.heap.size w ((w.alloc (.cells #[.slice a len cap, .int .i64 d, .int .i64 bd] 25)).alloc (.cells #[.slice none 0 0, .int .u32 0, .slice none 0 0, .slice none 0 0, .slice none 0 0, .slice none 0 0, .int .u32 0, .int .i64 0] 32)) := ((Below.refl _ _).alloc (Nat.le_refl _) _).alloc (by simp) _
  have HBO := boot_s a len cap d bd v zs ((w.alloc (.cells #[.slice a len cap, .int .i64 d, .int .i64 bd] 25)).alloc (.cells #[.slice none 0 0, .int .u32 0, .slice none 0 0, .slice none 0 0, .slice none 0 0, .slice none 0 0, .int .u32 0, .int .i64 0] 32)) hl hz (h.below B2) hnil
  have hcod := hc.below B2
  have hll := lis_len hc
  have hcb : ∀ g ∈ blk (.slice a len cap), g < w.heap.size := hc.lt
  have hbm : bootM len d bd zs = zeroM := by unfold bootM; rw [hv]; rfl
  rw [hbm] at HBO
  have HQ : Hid _ := And.intro HBO (And.intro hcod B2)
  clear HBO hcod B2 h hc hz hnil hcu hl
  clear hv hbm hcb hll
  go_enter Try.func9, Try.ntmps9
  go_wp2_with fail
  refine HQ.out.1.mono ?_
  rintro e w1 ⟨u1, rfl, hA, hb1⟩
  obtain ⟨r, dd, s, i, o, rfl, hr, hd, hs, hi, ho, hnd, hB, hk⟩ := hA
  obtain ⟨e1, f1, rfl⟩ := hr.len0
  obtain ⟨e2, f2, rfl⟩ := hd.len0
  obtain ⟨e3, f3, rfl⟩ := hs.len0
  obtain ⟨e4, f4, rfl⟩ := hi.len0
  obtain ⟨e5, f5, rfl⟩ := own_slice ho
  rw [show zeroM.regs.length = 0 from rfl, show zeroM.data.length = 0 from rfl, show zeroM.stack.length = 0 from rfl, show zeroM.inn.length = 0 from rfl, show zeroM.out.length = 0 from rfl, show zeroM.pc = 0 from rfl, show zeroM.low = 0 from rfl, show zeroM.st = 0 from rfl]
  have zz := hb1.size
  simp only [World.size_alloc] at zz
  have R1 : w1.heap[w.heap.size + 1]? = some (.cells #[.slice none 0 0, .int .u32 0, .slice none 0 0, .slice none 0 0, .slice none 0 0, .slice none 0 0, .int .u32 0, .int .i64 0] 32) := by
    rw [hb1.block _ (by simp)]
    have := heap_alloc_new (w.alloc (.cells #[.slice a len cap, .int .i64 d, .int .i64 bd] 25)) (.cells #[.slice none 0 0, .int .u32 0, .slice none 0 0, .slice none 0 0, .slice none 0 0, .slice none 0 0, .int .u32 0, .int .i64 0] 32)
    simpa only [World.size_alloc] using this
  have BW1 : Below w.heap.size w w1 := HQ.out.2.2.trans (hb1.mono (by simp; omega))
  have HV : Hid _ := And.intro R1 BW1
  clear R1 BW1 hb1 HQ hr hd hs hi ho hnd hB hk
  dsimp only
  go_upto_region 2 with fail
  obtain ⟨W, hW⟩ : ∃ W, W = w1.alloc (.cells #[.slice e1 0 f1, .int .u32 0, .slice e2 0 f2, .slice e3 0 f3, .slice e4 0 f4, .slice e5 0 f5, .int .u32 0, .int .i64 0] 32) := ⟨_, rfl⟩
  rw [← hW]
  have X1 : W.heap[w1.heap.size]? = some (.cells #[.slice e1 0 f1, .int .u32 0, .slice e2 0 f2, .slice e3 0 f3, .slice e4 0 f4, .slice e5 0 f5, .int .u32 0, .int .i64 0] 32) := by rw [hW]; exact heap_alloc_new w1 _
  have AW : Below w1.heap.size w1 W := by rw [hW]; exact (Below.refl _ _).alloc (Nat.le_refl _) _
  have R2 := (AW.block _ (by omega)).trans HV.out.1
  have B9 := Bx.of_heap X1
  have RB := Bx.of_heap R2
  obtain ⟨t0, t1, t2, t3, t4, t5, t6, t7, tf⟩ := id B9
  obtain ⟨z0, z1, z2, z3, z4, z5, z6, z7, zf⟩ := id RB
  have HW : Hid _ := HV.out.2.trans (AW.mono (by omega))
  clear X1 AW hW B9 RB R2
  go_wp2
  refine bodyPost_ret (v := .agg #[.slice none 0 0, .int .u32 0, .slice none 0 0, .slice none 0 0, .slice none 0 0, .slice none 0 0, .int .u32 0, .int .i64 0]) (by simp [results, Try.results9, go_sem, z0, z1, z2, z3, z4, z5, z6, z7]) rfl ?_
  exact ⟨_, rfl, cpu_zero _ _, ((Tcs.refl (fun k => k = w.heap.size + 1) _).set8 _ rfl (.slice none 0 0) (.int .u32 0) (.slice none 0 0) (.slice none 0 0) (.slice none 0 0) (.slice none 0 0) (.int .u32 0) (.int .i64 0)).below HW.out HW.out.size (by rintro k rfl; omega)⟩


set_option maxRecDepth 8000 in
set_option maxHeartbeats 1000000 in
theorem run_s_out (a : Option Addr) (len cap : Nat) (d bd : Int) (v : Value) (zs codes : List Int) (w : World) (hl : len ≤ 1048576) (hz : zs.length ≤ 2097152) (h : Lis .i64 w v zs) (hnil : v = .slice none 0 0 ∨ ∃ ad m c, v = .slice (some ad) m c) (hc : Lis .u32 w (.slice a len cap) codes) (hcu : ∀ j, j < codes.length → 0 ≤ codes.getD j 0 ∧ codes.getD j 0 ≤ 4294967295) (steps : Int) (hst : ¬ (0 ≤ steps ∧ steps ≤ 1000000)) (hv : vimg len d bd = true) (ho : okIn zs = true) :
    Calls Try.prog 9 #[.agg #[.slice a len cap, .int .i64 d, .int .i64 bd], v, .int .i64 steps] w fun e w' => ∃ u, e = .returned u ∧ CpuAt w' w.heap.size u zeroM ∧ Below w.heap.size w w' := by
  have B2 : Below w.heap.size w ((w.alloc (.cells #[.slice a len cap, .int .i64 d, .int .i64 bd] 25)).alloc (.cells #[.slice none 0 0, .int .u32 0, .slice none 0 0, .slice none 0 0, .slice none 0 0, .slice none 0 0, .int .u32 0, .int .i64 0] 32)) := ((Below.refl _ _).alloc (Nat.le_refl _) _).alloc (by simp) _
  have HBO := boot_s a len cap d bd v zs ((w.alloc (.cells #[.slice a len cap, .int .i64 d, .int .i64 bd] 25)).alloc (.cells #[.slice none 0 0, .int .u32 0, .slice none 0 0, .slice none 0 0, .slice none 0 0, .slice none 0 0, .int .u32 0, .int .i64 0] 32)) hl hz (h.below B2) hnil
  have hcod := hc.below B2
  have hll := lis_len hc
  have hcb : ∀ g ∈ blk (.slice a len cap), g < w.heap.size := hc.lt
  obtain ⟨hG0, hst0, hmb0, hl2⟩ := boot_good len d bd zs hv ho
  generalize bootM len d bd zs = c0 at *
  have hin : inB steps 0 1000000 = false := by unfold inB; simp; omega
  have HQ : Hid _ := And.intro HBO (And.intro hcod B2)
  clear HBO hcod B2 h hc hz hnil hcu hl
  have HG : Hid _ := And.intro hG0 hst
  clear hG0 hst0 hmb0 hl2 hst hv ho hcb hll
  go_enter Try.func9, Try.ntmps9
  go_wp2_with fail
  refine HQ.out.1.mono ?_
  rintro e w1 ⟨u1, rfl, hA, hb1⟩
  obtain ⟨L, cv, hLB⟩ := hA.toV
  obtain ⟨g2, o2, q1, m2, m3, m4, m5, p2, q2, p3, q3, p4, q4, p5, q5, rfl, hbk2⟩ := cv.shape32 HG.out.1.r32
  have zz := hb1.size
  simp only [World.size_alloc] at zz
  have R1 : w1.heap[w.heap.size + 1]? = some (.cells #[.slice none 0 0, .int .u32 0, .slice none 0 0, .slice none 0 0, .slice none 0 0, .slice none 0 0, .int .u32 0, .int .i64 0] 32) := by
    rw [hb1.block _ (by simp)]
    have := heap_alloc_new (w.alloc (.cells #[.slice a len cap, .int .i64 d, .int .i64 bd] 25)) (.cells #[.slice none 0 0, .int .u32 0, .slice none 0 0, .slice none 0 0, .slice none 0 0, .slice none 0 0, .int .u32 0, .int .i64 0] 32)
    simpa only [World.size_alloc] using this
  have BW1 : Below w.heap.size w w1 := HQ.out.2.2.trans (hb1.mono (by simp; omega))
  have HV : Hid _ := And.intro R1 BW1
  clear R1 BW1 hA hb1 HQ cv hLB hbk2
  dsimp only
  go_upto_region 2 with fail
  obtain ⟨W, hW⟩ : ∃ W, W = w1.alloc (.cells #[.slice (some ⟨g2, o2, none⟩) 32 q1, .int .u32 c0.pc, .slice p2 m2 q2, .slice p3 m3 q3, .slice p4 m4 q4, .slice p5 m5 q5, .int .u32 c0.low, .int .i64 c0.st] 32) := ⟨_, rfl⟩
  rw [← hW]
  have X1 : W.heap[w1.heap.size]? = some (.cells #[.slice (some ⟨g2, o2, none⟩) 32 q1, .int .u32 c0.pc, .slice p2 m2 q2, .slice p3 m3 q3, .slice p4 m4 q4, .slice p5 m5 q5, .int .u32 c0.low, .int .i64 c0.st] 32) := by rw [hW]; exact heap_alloc_new w1 _
  have AW : Below w1.heap.size w1 W := by rw [hW]; exact (Below.refl _ _).alloc (Nat.le_refl _) _
  have R2 := (AW.block _ (by omega)).trans HV.out.1
  have B9 := Bx.of_heap X1
  have RB := Bx.of_heap R2
  obtain ⟨t0, t1, t2, t3, t4, t5, t6, t7, tf⟩ := id B9
  obtain ⟨z0, z1, z2, z3, z4, z5, z6, z7, zf⟩ := id RB
  have HW : Hid _ := HV.out.2.trans (AW.mono (by omega))
  clear X1 AW hW B9 RB R2
  go_wp2_with (first
    | (go_at_call 32; refine (in_any _ _ _ _).mono ?_; rintro e w' ⟨rfl, rfl⟩; rw [hin]))
  refine bodyPost_ret (v := .agg #[.slice none 0 0, .int .u32 0, .slice none 0 0, .slice none 0 0, .slice none 0 0, .slice none 0 0, .int .u32 0, .int .i64 0]) (by simp [results, Try.results9, go_sem, z0, z1, z2, z3, z4, z5, z6, z7]) rfl ?_
  exact ⟨_, rfl, cpu_zero _ _, ((Tcs.refl (fun k => k = w.heap.size + 1) _).set8 _ rfl (.slice none 0 0) (.int .u32 0) (.slice none 0 0) (.slice none 0 0) (.slice none 0 0) (.slice none 0 0) (.int .u32 0) (.int .i64 0)).below HW.out HW.out.size (by rintro k rfl; omega)⟩


def stepsOk (s : Int) : Bool := decide (0 ≤ s ∧ s ≤ 1000000)
def runRes (n : Nat) (d b : Int) (zs codes : List Int) (s : Int) : Mc := if (vimg n d b && okIn zs) = true then (if stepsOk s = true then runM codes b (bootM n d b zs) s.toNat else zeroM) else zeroM
theorem run_s (a : Option Addr) (len cap : Nat) (d bd : Int) (v : Value) (zs codes : List Int) (w : World) (hl : len ≤ 1048576) (hz : zs.length ≤ 2097152) (h : Lis .i64 w v zs) (hnil : v = .slice none 0 0 ∨ ∃ ad m c, v = .slice (some ad) m c) (hc : Lis .u32 w (.slice a len cap) codes) (hcu : ∀ j, j < codes.length → 0 ≤ codes.getD j 0 ∧ codes.getD j 0 ≤ 4294967295) (steps : Int) :
    Calls Try.prog 9 #[.agg #[.slice a len cap, .int .i64 d, .int .i64 bd], v, .int .i64 steps] w fun e w' => ∃ u, e = .returned u ∧ CpuAt w' w.heap.size u (runRes len d bd zs codes steps) ∧ Below w.heap.size w w' := by
  unfold runRes
  split
  · rename_i hv
    simp only [Bool.and_eq_true] at hv
    split
    · rename_i hs
      unfold stepsOk at hs
      simp only [decide_eq_true_eq] at hs
      obtain ⟨N, rfl⟩ := Int.eq_ofNat_of_zero_le hs.1
      exact run_s_yes a len cap d bd v zs codes w hl hz h hnil hc hcu N (by omega) hv.1 hv.2
    · rename_i hs
      unfold stepsOk at hs
      simp only [decide_eq_true_eq] at hs
      exact run_s_out a len cap d bd v zs codes w hl hz h hnil hc hcu steps hs hv.1 hv.2
  · rename_i hv
    exact run_s_no a len cap d bd v zs codes w hl hz h hnil hc hcu steps (by simpa using hv)

end Go.Proofs.Ytabjcodpagjbjaa

namespace Go.Proofs.Ytabjcodpagjbjaa
open Go.RowKit
set_option linter.unusedVariables false
set_option linter.unusedSectionVars false
set_option linter.unusedSimpArgs false
variable [Inhabited Pick]

theorem fe_any (Fb gk : Nat) (a : Option Addr) (len cap : Nat) (d bd pc : Int) (codes : List Int) (w : World) (hf : Ftc w Fb gk a len cap d bd codes) (hco : CodesOk codes) (hll : len = codes.length) (hpc : 0 ≤ pc ∧ pc ≤ 4294967295)
    (hc : Lis .u32 w (.slice a len cap) codes) (hne : ∀ g ∈ blk (.slice a len cap), g ≠ gk) :
    Calls Try.prog 29 #[.pointer (some ⟨Fb, 0, none⟩), .int .u32 pc] w fun e w' => e = .returned (fetchM codes pc).val ∧ Ftc w' Fb gk a len cap d bd codes ∧ Tcs (fun k => k = gk) w w' := by
  by_cases hw : 4096 ≤ pc ∧ (pc - 4096) % 4 = 0 ∧ (pc - 4096) / 4 < (len : Int)
  · obtain ⟨n, hn⟩ := Int.eq_ofNat_of_zero_le (show 0 ≤ (pc - 4096) / 4 by omega)
    have hnl : n < len := by omega
    have hp : pc = 4096 + 4 * (n : Int) := by omega
    have hfe : fetchM codes pc = decOf (codes.getD n 0) := by
      unfold fetchM wordAt
      rw [if_pos (by rw [← hll]; exact hw), hn]
      rfl
    rw [hfe]
    obtain ⟨x, hx, hs⟩ := hf.ks n hnl
    cases ho : x.o with
    | true =>
      have hxe : x = decOf (codes.getD n 0) := by
        rcases hx with rfl | h
        · simp [Dec.no] at ho
        · exact h
      rw [← hxe]
      exact fe_hit Fb gk a len cap d bd pc codes w hf hco hll hpc n hnl hp x hs ho
    | false => exact fe_new Fb gk a len cap d bd pc codes w hf hco hll hpc n hnl hp x hs ho hc hne
  · have hfe : fetchM codes pc = Dec.no := by
      unfold fetchM wordAt
      rw [if_neg (by rw [← hll]; exact hw)]
    rw [hfe]
    exact fe_no Fb gk a len cap d bd pc codes w hf hco hll hpc hw


theorem lt8 {i : Nat} (h : i < 8) : i = 0 ∨ i = 1 ∨ i = 2 ∨ i = 3 ∨ i = 4 ∨ i = 5 ∨ i = 6 ∨ i = 7 := by omega
def fetA (a : Option Addr) (len cap : Nat) (d bd : Int) (g : Nat) : Array Value := (#[Value.slice a len cap, Value.int .i64 d, Value.int .i64 bd] ++ tabA).push (Value.slice (some ⟨g, 0, none⟩) len len)
theorem build_fet (a : Option Addr) (len cap : Nat) (d bd : Int) (g : Nat) (W : World) : (Instr.build 60 #[(0, .agg #[.slice a len cap, .int .i64 d, .int .i64 bd]), (1, .agg tabA), (2, .slice (some ⟨g, 0, none⟩) len len)]).run Try.prog W = .ok (.agg (fetA a len cap d bd g)) W := by kernel_rfl
def zeroF : Array Value := #[.slice none 0 0, .int .i64 0, .int .i64 0, .nilIface, .nilIface, .nilIface, .nilIface, .nilIface, .nilIface, .nilIface, .nilIface, .nilIface, .nilIface, .nilIface, .nilIface, .nilIface, .nilIface, .nilIface, .nilIface, .nilIface, .nilIface, .nilIface, .nilIface, .nilIface, .nilIface, .nilIface, .nilIface, .nilIface, .nilIface, .nilIface, .nilIface, .nilIface, .nilIface, .nilIface, .nilIface, .nilIface, .nilIface, .nilIface, .slice none 0 0]
theorem Try.infRes : (Try.prog.info? 66).map (fun i => (i.zero, i.size, i.bytes)) = some (some (.agg #[.bool false, .int .i64 0, .int .i64 0, .int .i64 0, .int .i64 0, .int .i64 0]), 6, 48) := by kernel_rfl

theorem arr48 (a : Array Value) (h : a.size = 48) : ∃ t0 t1 t2 t3 t4 t5 t6 t7 t8 t9 t10 t11 t12 t13 t14 t15 t16 t17 t18 t19 t20 t21 t22 t23 t24 t25 t26 t27 t28 t29 t30 t31 t32 t33 t34 t35 t36 t37 t38 t39 t40 t41 t42 t43 t44 t45 t46 t47, a = #[t0, t1, t2, t3, t4, t5, t6, t7, t8, t9, t10, t11, t12, t13, t14, t15, t16, t17, t18, t19, t20, t21, t22, t23, t24, t25, t26, t27, t28, t29, t30, t31, t32, t33, t34, t35, t36, t37, t38, t39, t40, t41, t42, t43, t44, t45, t46, t47] := by
  obtain ⟨l⟩ := a
  simp only [List.size_toArray] at h
  obtain ⟨t0, l0, rfl, h0⟩ := len_cons h
  obtain ⟨t1, l1, rfl, h1⟩ := len_cons h0
  obtain ⟨t2, l2, rfl, h2⟩ := len_cons h1
  obtain ⟨t3, l3, rfl, h3⟩ := len_cons h2
  obtain ⟨t4, l4, rfl, h4⟩ := len_cons h3
  obtain ⟨t5, l5, rfl, h5⟩ := len_cons h4
  obtain ⟨t6, l6, rfl, h6⟩ := len_cons h5
  obtain ⟨t7, l7, rfl, h7⟩ := len_cons h6
  obtain ⟨t8, l8, rfl, h8⟩ := len_cons h7
  obtain ⟨t9, l9, rfl, h9⟩ := len_cons h8
  obtain ⟨t10, l10, rfl, h10⟩ := len_cons h9
  obtain ⟨t11, l11, rfl, h11⟩ := len_cons h10
  obtain ⟨t12, l12, rfl, h12⟩ := len_cons h11
  obtain ⟨t13, l13, rfl, h13⟩ := len_cons h12
  obtain ⟨t14, l14, rfl, h14⟩ := len_cons h13
  obtain ⟨t15, l15, rfl, h15⟩ := len_cons h14
  obtain ⟨t16, l16, rfl, h16⟩ := len_cons h15
  obtain ⟨t17, l17, rfl, h17⟩ := len_cons h16
  obtain ⟨t18, l18, rfl, h18⟩ := len_cons h17
  obtain ⟨t19, l19, rfl, h19⟩ := len_cons h18
  obtain ⟨t20, l20, rfl, h20⟩ := len_cons h19
  obtain ⟨t21, l21, rfl, h21⟩ := len_cons h20
  obtain ⟨t22, l22, rfl, h22⟩ := len_cons h21
  obtain ⟨t23, l23, rfl, h23⟩ := len_cons h22
  obtain ⟨t24, l24, rfl, h24⟩ := len_cons h23
  obtain ⟨t25, l25, rfl, h25⟩ := len_cons h24
  obtain ⟨t26, l26, rfl, h26⟩ := len_cons h25
  obtain ⟨t27, l27, rfl, h27⟩ := len_cons h26
  obtain ⟨t28, l28, rfl, h28⟩ := len_cons h27
  obtain ⟨t29, l29, rfl, h29⟩ := len_cons h28
  obtain ⟨t30, l30, rfl, h30⟩ := len_cons h29
  obtain ⟨t31, l31, rfl, h31⟩ := len_cons h30
  obtain ⟨t32, l32, rfl, h32⟩ := len_cons h31
  obtain ⟨t33, l33, rfl, h33⟩ := len_cons h32
  obtain ⟨t34, l34, rfl, h34⟩ := len_cons h33
  obtain ⟨t35, l35, rfl, h35⟩ := len_cons h34
  obtain ⟨t36, l36, rfl, h36⟩ := len_cons h35
  obtain ⟨t37, l37, rfl, h37⟩ := len_cons h36
  obtain ⟨t38, l38, rfl, h38⟩ := len_cons h37
  obtain ⟨t39, l39, rfl, h39⟩ := len_cons h38
  obtain ⟨t40, l40, rfl, h40⟩ := len_cons h39
  obtain ⟨t41, l41, rfl, h41⟩ := len_cons h40
  obtain ⟨t42, l42, rfl, h42⟩ := len_cons h41
  obtain ⟨t43, l43, rfl, h43⟩ := len_cons h42
  obtain ⟨t44, l44, rfl, h44⟩ := len_cons h43
  obtain ⟨t45, l45, rfl, h45⟩ := len_cons h44
  obtain ⟨t46, l46, rfl, h46⟩ := len_cons h45
  obtain ⟨t47, l47, rfl, h47⟩ := len_cons h46
  obtain rfl := List.eq_nil_of_length_eq_zero h47
  exact ⟨_, _, _, _, _, _, _, _, _, _, _, _, _, _, _, _, _, _, _, _, _, _, _, _, _, _, _, _, _, _, _, _, _, _, _, _, _, _, _, _, _, _, _, _, _, _, _, _, rfl⟩


theorem RInv.below {w wr wr' : World} {Cb : Nat} {mo ro : Obj} {cv : Value} {codes : List Int} {c : Mc} (h : RInv w wr Cb mo ro cv codes c) (hb : Below wr.heap.size wr wr') : RInv w wr' Cb mo ro cv codes c := by
  obtain ⟨r, d, s, i, o, L, hB, hcv, hL, hM, hRo, hco, hcbk, hBW, hCb⟩ := h
  have h1 := hB.lt
  have h2 := hBW.size
  exact ⟨r, d, s, i, o, L, hB.below hb, hcv.below hb, hL, (hb.block _ (by omega)).trans hM, (hb.block _ (by omega)).trans hRo, hco.below hb, hcbk, hBW.trans (hb.mono h2), hCb⟩
theorem CpuV.toIn {W : World} {C : Nat} {L : List Nat} {c : Mc} {r d s i o : Value} (hb : Bx W C r (.int .u32 c.pc) d s i o (.int .u32 c.low) (.int .i64 c.st)) (h : CpuV W (.agg #[r, .int .u32 c.pc, d, s, i, o, .int .u32 c.low, .int .i64 c.st]) L c) (hn : C ∉ L) : CpuIn W C (C :: L) c := by
  obtain ⟨r', d', s', i', o', hv, hr, hd, hs, hi, ho, hk, rfl, hnd⟩ := h
  simp only [Value.agg.injEq, Array.mk.injEq, List.cons.injEq, and_true, true_and] at hv
  obtain ⟨rfl, rfl, rfl, rfl, rfl⟩ := hv
  exact ⟨_, _, _, _, _, hb, hr, hd, hs, hi, ho, hk, rfl, List.nodup_cons.mpr ⟨hn, hnd⟩⟩
/-- What holds in the program's run at each round's head. -/
def IInv (w wr : World) (Cb gF gk : Nat) (mo ro : Obj) (a : Option Addr) (len cap : Nat) (d bd : Int) (codes : List Int) (c : Mc) : Prop :=
  ∃ L, CpuIn wr Cb (Cb :: L) c ∧ (∀ g ∈ L, w.heap.size + 1 < g ∧ g ≠ Cb ∧ g ≠ gF ∧ g ≠ gk) ∧ wr.heap[w.heap.size]? = some mo ∧ wr.heap[w.heap.size + 1]? = some ro ∧ Lis .u32 wr (.slice a len cap) codes ∧ (∀ g ∈ blk (.slice a len cap), g < w.heap.size) ∧ Below w.heap.size w wr ∧
    Ftc wr gF gk a len cap d bd codes ∧ w.heap.size + 1 < Cb ∧ Cb < gF ∧ Cb < gk
theorem fet_size (a : Option Addr) (len cap : Nat) (d bd : Int) (g : Nat) : (fetA a len cap d bd g).size = 39 := by kernel_rfl
theorem fet_one (a : Option Addr) (len cap : Nat) (d bd : Int) (g : Nat) : ((fetA a len cap d bd g).all fun x => x.oneCell') = true := by kernel_rfl
theorem zeroF_size : zeroF.size = 39 := by kernel_rfl
theorem Try.infFet : (Try.prog.info? 60).map (·.size) = some 39 := by kernel_rfl
theorem fet_get (a : Option Addr) (len cap : Nat) (d bd : Int) (g : Nat) : (fetA a len cap d bd g).toList[0]? = some (.slice a len cap) ∧ (fetA a len cap d bd g).toList[1]? = some (.int .i64 d) ∧ (fetA a len cap d bd g).toList[2]? = some (.int .i64 bd) ∧ (fetA a len cap d bd g).toList[38]? = some (.slice (some ⟨g, 0, none⟩) len len) ∧
    ∀ j, j < 35 → (fetA a len cap d bd g).toList[3 + j]? = tabA[j]? := by
  refine ⟨by kernel_rfl, by kernel_rfl, by kernel_rfl, by kernel_rfl, fun j hj => ?_⟩
  have e : (fetA a len cap d bd g).toList = [Value.slice a len cap, Value.int .i64 d, Value.int .i64 bd] ++ (tabA.toList ++ [Value.slice (some ⟨g, 0, none⟩) len len]) := by simp [fetA]
  rw [e, List.getElem?_append_right (by simp)]
  rw [show (3 + j - [Value.slice a len cap, Value.int .i64 d, Value.int .i64 bd].length) = j by simp]
  rw [List.getElem?_append_left (by simp [tab_size]; omega)]
  simp
theorem made6 {W : World} {g n : Nat} {t : TypeId} (h : W.heap[g]? = some (.cells (madeCells #[.bool false, .int .i64 0, .int .i64 0, .int .i64 0, .int .i64 0, .int .i64 0] (n * 6)) t)) (i : Nat) (hi : i < n) : Six W g (i * 6) Dec.no := by
  have k : ∀ j, j < 6 → W.cell? ⟨g, i * 6 + j, none⟩ = some ((#[.bool false, .int .i64 0, .int .i64 0, .int .i64 0, .int .i64 0, .int .i64 0] : Array Value)[j]!) := by
    intro j hj
    have hm : (i * 6 + j) % 6 = j := by omega
    have hlt : i * 6 + j < n * 6 := by omega
    simp [World.cell?, h, madeCells, hm, hlt]
  exact ⟨k 0 (by omega), k 1 (by omega), k 2 (by omega), k 3 (by omega), k 4 (by omega), k 5 (by omega)⟩
theorem ftc_new {Y : World} {gF gk : Nat} {a : Option Addr} {len cap : Nat} {d bd : Int} {codes : List Int} (hF : Y.heap[gF]? = some (.cells zeroF 60)) (hk : Y.heap[gk]? = some (.cells (madeCells #[.bool false, .int .i64 0, .int .i64 0, .int .i64 0, .int .i64 0, .int .i64 0] (len * 6)) 66)) :
    Ftc (Y.setCells gF 0 (fetA a len cap d bd gk).toList) gF gk a len cap d bd codes ∧ Tcs (fun k => k = gF) Y (Y.setCells gF 0 (fetA a len cap d bd gk).toList) ∧ gF ≠ gk := by
  have hne : gF ≠ gk := by
    intro e
    rw [e, hk] at hF
    simp at hF
  have hT : ∀ (vs : List Value) (o : Nat) (w w' : World), Tcs (fun k => k = gF) w w' → Tcs (fun k => k = gF) w (w'.setCells gF o vs) := by
    intro vs
    induction vs with
    | nil => intro o w w' h; exact h
    | cons v r ih => intro o w w' h; exact ih (o + 1) w _ (h.setCell (p := ⟨gF, o, none⟩) rfl v)
  have T1 := hT (fetA a len cap d bd gk).toList 0 Y Y (Tcs.refl _ _)
  have hth : Y.there gF 0 (fetA a len cap d bd gk).toList.length := by
    intro j hj
    have hj' : j < 39 := by simpa [fet_size] using hj
    rw [Nat.zero_add]
    refine ⟨?_, frozen_of_row _ _ _ _ _ hF⟩
    rw [cell_of_row _ _ _ _ _ _ hF]
    simp [zeroF_size]
    omega
  have hR := World.rangeAt_setCells_same Y gF 0 (fetA a len cap d bd gk).toList hth
  have hlF : gF < Y.heap.size := (Array.getElem?_eq_some_iff.mp hF).1
  have hlk : gk < Y.heap.size := (Array.getElem?_eq_some_iff.mp hk).1
  have bk := T1.block gk hlk (fun e => hne e.symm)
  obtain ⟨g0, g1, g2, g38, gt⟩ := fet_get a len cap d bd gk
  have c := fun j v h => (by have := hR j v h; rwa [Nat.zero_add] at this : (Y.setCells gF 0 (fetA a len cap d bd gk).toList).cell? ⟨gF, j, none⟩ = some v)
  refine ⟨⟨Nat.lt_of_lt_of_le hlF T1.size, c 0 _ g0, c 1 _ g1, c 2 _ g2, fun j hj => ?_, c 38 _ g38, Nat.lt_of_lt_of_le hlk T1.size, fun j => ?_, fun i hi => ⟨Dec.no, .inl rfl, (made6 hk i hi).keep bk⟩, hne⟩, T1, hne⟩
  · have h35 : j < tabA.size := by rw [tab_size]; exact hj
    rw [Array.getElem?_eq_getElem h35]
    refine c (3 + j) _ ?_
    rw [gt j hj, Array.getElem?_eq_getElem h35]
  · rw [World.frozen?_of_block (w := Y) (a := ⟨gk, j, none⟩) bk]
    simp [World.frozen?, hk]

end Go.Proofs.Ytabjcodpagjbjaa
