import Derived.Deep.Cut
import Derived.Deep.RegionHeld3
import Derived.Deep.RegionLaw
import Derived.Test.YtabjcodpagjbjaaP40
namespace Go.Proofs.Ytabjcodpagjbjaa
open Go.RowKit
set_option linter.unusedVariables false
set_option linter.unusedSectionVars false
set_option linter.unusedSimpArgs false
variable [Inhabited Pick]

set_option maxRecDepth 8000 in
set_option maxHeartbeats 1000000 in
theorem run_i_yes (a : Option Addr) (len cap : Nat) (d bd : Int) (v : Value) (zs codes : List Int) (w : World) (hl : len ≤ 1048576) (hz : zs.length ≤ 2097152) (h : Lis .i64 w v zs) (hc : Lis .u32 w (.slice a len cap) codes) (hcu : ∀ j, j < codes.length → 0 ≤ codes.getD j 0 ∧ codes.getD j 0 ≤ 4294967295) (N : Nat) (hN : N ≤ 1000000) (hv : vimg len d bd = true) (ho : okIn zs = true) :
    Calls Try.prog 7 #[.agg #[.slice a len cap, .int .i64 d, .int .i64 bd], v, .int .i64 N] w fun e w' => ∃ u, e = .returned u ∧ CpuAt w' w.heap.size u (runM codes bd (bootM len d bd zs) N) ∧ Below w.heap.size w w' := by
  have B2 : Below w.heap.size w ((w.alloc (.cells #[.slice a len cap, .int .i64 d, .int .i64 bd] 25)).alloc (.cells #[.slice none 0 0, .int .u32 0, .slice none 0 0, .slice none 0 0, .slice none 0 0, .slice none 0 0, .int .u32 0, .int .i64 0] 32)) := ((Below.refl _ _).alloc (Nat.le_refl _) _).alloc (by simp) _
  have HBO := boot_i a len cap d bd v zs ((w.alloc (.cells #[.slice a len cap, .int .i64 d, .int .i64 bd] 25)).alloc (.cells #[.slice none 0 0, .int .u32 0, .slice none 0 0, .slice none 0 0, .slice none 0 0, .slice none 0 0, .int .u32 0, .int .i64 0] 32)) hl hz (h.below B2)
  have hcod := hc.below B2
  have hll := lis_len hc
  have hcb : ∀ g ∈ blk (.slice a len cap), g < w.heap.size := hc.lt
  obtain ⟨hG0, hst0, hmb0, hl2⟩ := boot_good len d bd zs hv ho
  have hco : CodesOk codes := ⟨by omega, hcu⟩
  have hlen0 : 1 ≤ len := by unfold vimg at hv; simp only [decide_eq_true_eq] at hv; exact hv.1
  generalize bootM len d bd zs = c0 at *
  have hNI : (N : Int) ≤ 1000000 := by omega
  have hlI : (len : Int) ≤ 20000 := by omega
  obtain ⟨i1, hi1, hz3, hz4, hz5⟩ := info_parts Try.infRes
  have hm1 : ∀ W : World, (Instr.makeSlice 58 (.int .i64 len) (.int .i64 len)).run Try.prog W = .ok (.slice (some ⟨W.heap.size, 0, none⟩) len len) (W.alloc (.cells (madeCells #[.bool false, .int .i64 0, .int .i64 0, .int .i64 0, .int .i64 0, .int .i64 0] (len * 6)) 66)) := fun W => by
    have := run_make (P := Try.prog) W 58 66 i1 _ Try.underlying58 hi1 hz3 .i64 .i64 len len (by omega) (by omega) (by rw [hz5]; omega) (by omega)
    rw [hz4] at this
    rw [show ((len : Nat) : Int).toNat = len from Int.toNat_natCast len] at this
    exact this
  clear hi1 hz3 hz4 hz5
  have HQ : Hid _ := And.intro HBO (And.intro hcod (And.intro B2 hcb))
  clear HBO hcod B2 h hc hz hcu hl hcb
  have HG : Hid _ := And.intro hG0 (And.intro hst0 (And.intro hmb0 (And.intro hl2 (And.intro hN (And.intro hll (And.intro hco hlen0))))))
  clear hG0 hst0 hmb0 hl2 hll hN hco hv ho hlen0
  go_enter Try.func7, Try.ntmps7
  go_wp2_with fail
  refine HQ.out.1.mono ?_
  rintro e w1 ⟨u1, rfl, hA, hb1⟩
  obtain ⟨L, cv, hLB⟩ := hA.toV
  obtain ⟨g2, o2, q1, m2, m3, m4, m5, p2, q2, p3, q3, p4, q4, p5, q5, rfl, hbk2⟩ := cv.shape32 HG.out.1.r32
  have zz := hb1.size
  simp only [World.size_alloc] at zz hLB
  have M1 : w1.heap[w.heap.size]? = some (.cells #[.slice a len cap, .int .i64 d, .int .i64 bd] 25) := by
    rw [hb1.block _ (by simp; omega), Below.heap_alloc _ _ _ (by simp)]
    exact heap_alloc_new _ _
  have R1 : w1.heap[w.heap.size + 1]? = some (.cells #[.slice none 0 0, .int .u32 0, .slice none 0 0, .slice none 0 0, .slice none 0 0, .slice none 0 0, .int .u32 0, .int .i64 0] 32) := by
    rw [hb1.block _ (by simp)]
    have := heap_alloc_new (w.alloc (.cells #[.slice a len cap, .int .i64 d, .int .i64 bd] 25)) (.cells #[.slice none 0 0, .int .u32 0, .slice none 0 0, .slice none 0 0, .slice none 0 0, .slice none 0 0, .int .u32 0, .int .i64 0] 32)
    simpa only [World.size_alloc] using this
  have hcod1 := HQ.out.2.1.below hb1
  have BW1 : Below w.heap.size w w1 := HQ.out.2.2.1.trans (hb1.mono (by simp; omega))
  have hlt := cv.lt
  have HV : Hid _ := And.intro cv (And.intro hLB (And.intro M1 (And.intro R1 (And.intro hcod1 (And.intro BW1 (And.intro hlt HQ.out.2.2.2))))))
  clear cv hLB M1 R1 hcod1 BW1 hlt hA hb1 HQ hbk2
  dsimp only
  go_upto_region 2 with fail
  obtain ⟨W, hW⟩ : ∃ W, W = w1.alloc (.cells #[.slice (some ⟨g2, o2, none⟩) 32 q1, .int .u32 c0.pc, .slice p2 m2 q2, .slice p3 m3 q3, .slice p4 m4 q4, .slice p5 m5 q5, .int .u32 c0.low, .int .i64 c0.st] 32) := ⟨_, rfl⟩
  rw [← hW]
  obtain ⟨cv, hLB, M1, R1, hcod1, BW1, hlt, hcb⟩ := HV.out
  have X1 : W.heap[w1.heap.size]? = some (.cells #[.slice (some ⟨g2, o2, none⟩) 32 q1, .int .u32 c0.pc, .slice p2 m2 q2, .slice p3 m3 q3, .slice p4 m4 q4, .slice p5 m5 q5, .int .u32 c0.low, .int .i64 c0.st] 32) := by rw [hW]; exact heap_alloc_new w1 _
  have AW : Below w1.heap.size w1 W := by rw [hW]; exact (Below.refl _ _).alloc (Nat.le_refl _) _
  have zW : W.heap.size = w1.heap.size + 1 := by rw [hW]; simp
  have B9 := Bx.of_heap X1
  obtain ⟨t0, t1, t2, t3, t4, t5, t6, t7, tf⟩ := id B9
  have MW := (AW.block _ (by omega)).trans M1
  have mm0 := cell_of MW (j := 0) rfl
  have mm1 := cell_of MW (j := 1) rfl
  have mm2 := cell_of MW (j := 2) rfl
  have HI : Hid (RInv w W w1.heap.size (.cells #[.slice a len cap, .int .i64 d, .int .i64 bd] 25) (.cells #[.slice none 0 0, .int .u32 0, .slice none 0 0, .slice none 0 0, .slice none 0 0, .slice none 0 0, .int .u32 0, .int .i64 0] 32) (.slice a len cap) codes (runM codes bd c0 0)) :=
    ⟨_, _, _, _, _, L, B9, cv.below AW, fun g hg => ⟨by have := hLB g hg; omega, by have := hlt g hg; omega⟩, MW, (AW.block _ (by omega)).trans R1, hcod1.below AW, hcb, BW1.trans (AW.mono (by omega)), by omega⟩
  clear cv hLB M1 R1 hcod1 BW1 hlt X1 AW hW B9 HV MW hcb
  go_wp2_with fail
  have HWW : Hid _ := And.intro mm0 (And.intro mm1 mm2)
  clear mm0 mm1 mm2 t0 t1 t2 t3 t4 t5 t6 t7 tf
  refine wp_region_grow (by kernel_rfl) (n := 8) (d := fun i => [26, 27, 28, 29, 30, 31, 32, 8].getD i 0) ?G
    (fun i x Y => match i with
      | 0 => x = .agg #[.slice a len cap, .int .i64 d, .int .i64 bd]
      | 1 => x = .agg tabA
      | 2 => x = .pointer (some ⟨w.heap.size, 0, none⟩)
      | 3 => x = .slice a len cap
      | 4 => x = .int .i64 len
      | 5 => ∃ g, x = .slice (some ⟨g, 0, none⟩) len len ∧ Y.heap[g]? = some (.cells (madeCells #[.bool false, .int .i64 0, .int .i64 0, .int .i64 0, .int .i64 0, .int .i64 0] (len * 6)) 66)
      | 6 => ∃ g, x = .agg (fetA a len cap d bd g) ∧ Y.heap[g]? = some (.cells (madeCells #[.bool false, .int .i64 0, .int .i64 0, .int .i64 0, .int .i64 0, .int .i64 0] (len * 6)) 66) ∧ W.heap.size ≤ g
      | _ => ∃ g, x = .pointer (some ⟨g, 0, none⟩) ∧ W.heap.size ≤ g ∧ Y.heap[g]? = some (.cells zeroF 60))
    (fun i x => match i with
      | 5 => obk x
      | _ => []) ?stab ?hd ?step ?fin
  case G =>
    refine ⟨rfl, ?_, ?_, ?_⟩
    · intro i hi
      rcases lt8 hi with rfl | rfl | rfl | rfl | rfl | rfl | rfl | rfl <;> exact ⟨_, rfl, rfl, rfl, by simp [Region.binds]⟩
    · intro i j hi hj
      rcases lt8 hi with rfl | rfl | rfl | rfl | rfl | rfl | rfl | rfl <;> rcases lt8 hj with rfl | rfl | rfl | rfl | rfl | rfl | rfl | rfl <;> simp
    · refine ⟨_, rfl, rfl, ?_, by simp⟩
      intro i hi
      rcases lt8 hi with rfl | rfl | rfl | rfl | rfl | rfl | rfl | rfl <;> simp [Region.binds]
  case stab =>
    intro i x Y Y' hR hO hB
    by_cases hi : i < 8
    · rcases lt8 hi with rfl | rfl | rfl | rfl | rfl | rfl | rfl | rfl
      · exact hR
      · exact hR
      · exact hR
      · exact hR
      · exact hR
      · obtain ⟨g, rfl, hg⟩ := hR
        exact ⟨g, rfl, blocks_keep hg hB⟩
      · obtain ⟨g, rfl, hg, hg'⟩ := hR
        exact ⟨g, rfl, blocks_keep hg hB, hg'⟩
      · obtain ⟨g, rfl, hg, hg'⟩ := hR
        exact ⟨g, rfl, hg, blocks_keep hg' hB⟩
    · obtain ⟨k, rfl⟩ : ∃ k, i = k + 8 := ⟨i - 8, by omega⟩
      obtain ⟨g, rfl, hg, hg'⟩ := hR
      exact ⟨g, rfl, hg, blocks_keep hg' hB⟩
  case hd =>
    intro i hi
    rcases lt8 hi with rfl | rfl | rfl | rfl | rfl | rfl | rfl | rfl <;> simp
  case step =>
    intro i o hi ho x Y hdf hts hfr hB hdep hown hap
    have t3 := hfr 3 (by intro j hj; rcases lt8 hj with rfl | rfl | rfl | rfl | rfl | rfl | rfl | rfl <;> decide)
    simp at t3
    have hsz : w.heap.size < W.heap.size := by omega
    rcases lt8 hi with rfl | rfl | rfl | rfl | rfl | rfl | rfl | rfl
    · simp at ho
      subst ho
      have c0 := (hB.cell (p := ⟨w.heap.size, 0, none⟩) hsz).trans HWW.out.1
      have c1 := (hB.cell (p := ⟨w.heap.size, 1, none⟩) hsz).trans HWW.out.2.1
      have c2 := (hB.cell (p := ⟨w.heap.size, 2, none⟩) hsz).trans HWW.out.2.2
      simp at c0 c1 c2
      simp [Oper.wp, execOp, Oper.upon, Act.eval, t3, c0, c1, c2, go_sem]
      exact ⟨_, rfl, rfl, Below.refl _ _⟩
    · simp at ho
      subst ho
      simp [Oper.wp, execOp, Oper.upon, Act.eval, go_sem]
      refine (opShapes_any Y).mono ?_
      rintro e w3 ⟨rfl, h3⟩
      exact ⟨_, rfl, rfl, h3⟩
    · simp at ho
      subst ho
      simp [Oper.wp, execOp, Oper.upon, Act.eval, t3, go_sem]
      exact ⟨_, rfl, rfl, Below.refl _ _⟩
    · simp at ho
      subst ho
      have e1 : x.tmps[28]?.getD undef = .pointer (some ⟨w.heap.size, 0, none⟩) := by have := hdep ⟨2, .data⟩ (by simp); simpa [Act.eval] using this
      have c0 := (hB.cell (p := ⟨w.heap.size, 0, none⟩) hsz).trans HWW.out.1
      simp at c0
      simp [Oper.wp, execOp, Oper.upon, e1, c0, go_sem]
      exact ⟨_, rfl, rfl, Below.refl _ _⟩
    · simp at ho
      subst ho
      have e1 : x.tmps[29]?.getD undef = .slice a len cap := by have := hdep ⟨3, .data⟩ (by simp); simpa [Act.eval] using this
      simp [Oper.wp, execOp, Oper.upon, e1, go_sem]
      exact ⟨_, rfl, rfl, Below.refl _ _⟩
    · simp at ho
      subst ho
      have e1 := hdep ⟨4, .data⟩ (by simp)
      simp at e1
      simp [Oper.wp, execOp, Oper.upon, e1, hm1]
      exact ⟨_, rfl, ⟨_, rfl, heap_alloc_new _ _⟩, (Below.refl _ _).alloc (Nat.le_refl _) _, by intro g hg; simp [obk] at hg; omega⟩
    · simp at ho
      subst ho
      have o5 := hown ⟨5, .data⟩ (by simp)
      have e0 : x.tmps[26]?.getD undef = .agg #[.slice a len cap, .int .i64 d, .int .i64 bd] := by have := hdep ⟨0, .data⟩ (by simp); simpa [Act.eval] using this
      have e1 : x.tmps[27]?.getD undef = .agg tabA := by have := hdep ⟨1, .data⟩ (by simp); simpa [Act.eval] using this
      obtain ⟨g, e5, b5⟩ := hdep ⟨5, .data⟩ (by simp)
      simp only [List.getD_cons_succ, List.getD_cons_zero] at e5 o5
      rw [e5] at o5
      simp only [obk, List.mem_singleton, forall_eq] at o5
      simp only [Act.eval] at e5
      have e5' : x.tmps[31]?.getD undef = .slice (some ⟨g, 0, none⟩) len len := by simpa using e5
      simp [Oper.wp, execOp, Oper.upon, Act.eval, e0, e1, e5', build_fet]
      exact ⟨_, rfl, ⟨g, rfl, b5, o5.1⟩, Below.refl _ _⟩
    · simp at ho
      subst ho
      simp [Oper.wp, execOp, Oper.upon, go_sem]
      exact ⟨_, rfl, ⟨_, rfl, hB.size, heap_alloc_new _ _⟩, (Below.refl _ _).alloc (Nat.le_refl _) _⟩
  case fin =>
    intro o ho x Y hG
    obtain ⟨hdf, hts, hfr, hB, hrel, hx1, hx2⟩ := hG
    simp at ho
    subst ho
    obtain ⟨gk, e6, b6, hgk⟩ := hrel 6 (by omega) trivial
    obtain ⟨gF, e7, hgF, b7⟩ := hrel 7 (by omega) trivial
    have f2 := hfr 2 (by intro j hj; rcases lt8 hj with rfl | rfl | rfl | rfl | rfl | rfl | rfl | rfl <;> decide)
    have f3 := hfr 3 (by intro j hj; rcases lt8 hj with rfl | rfl | rfl | rfl | rfl | rfl | rfl | rfl <;> decide)
    have f6 := hfr 6 (by intro j hj; rcases lt8 hj with rfl | rfl | rfl | rfl | rfl | rfl | rfl | rfl <;> decide)
    have f7 := hfr 7 (by intro j hj; rcases lt8 hj with rfl | rfl | rfl | rfl | rfl | rfl | rfl | rfl <;> decide)
    obtain ⟨hft, T1, hneq⟩ := ftc_new (a := a) (cap := cap) (d := d) (bd := bd) (codes := codes) b7 b6
    have hth : Y.there gF 0 (fetA a len cap d bd gk).size := by
      intro j hj
      rw [fet_size] at hj
      rw [Nat.zero_add]
      refine ⟨?_, frozen_of_row _ _ _ _ _ b7⟩
      rw [cell_of_row _ _ _ _ _ _ b7]
      simp [zeroF_size]
      omega
    refine wp_store_mid 60 (.tmp 8) (.tmp 32) rfl gF 0 (fetA a len cap d bd gk) e7 e6 hth (by rw [fet_size]; exact Try.infFet) (fet_one _ _ _ _ _ _) ?_
    obtain ⟨W5, hW5⟩ : ∃ W5, W5 = Y.setCells gF 0 (fetA a len cap d bd gk).toList := ⟨_, rfl⟩
    rw [← hW5] at hft T1 ⊢
    have BW5 : Below W.heap.size W W5 := T1.below hB hB.size (by rintro k rfl; exact hgF)
    have hI5 := HI.out.below BW5
    have hIn : IInv w W5 w1.heap.size gF gk (.cells #[.slice a len cap, .int .i64 d, .int .i64 bd] 25) (.cells #[.slice none 0 0, .int .u32 0, .slice none 0 0, .slice none 0 0, .slice none 0 0, .slice none 0 0, .int .u32 0, .int .i64 0] 32) a len cap d bd codes (runM codes bd c0 0) := by
      obtain ⟨r, dd, s, i, o, L5, hB5, hcv5, hL5, hM5, hRo5, hco5, hcbk5, hBW5, hCb5⟩ := HI.out
      have hlt5 := hcv5.lt
      refine ⟨L5, CpuV.toIn (hB5.below BW5) (hcv5.below BW5) (fun h => (hL5 _ h).2 rfl), fun g hg => ⟨(hL5 g hg).1, (hL5 g hg).2, ?_, ?_⟩, (BW5.block _ (by omega)).trans hM5, (BW5.block _ (by omega)).trans hRo5, hco5.below BW5, hcbk5, hBW5.trans (BW5.mono hBW5.size), hft, hCb5, by omega, by omega⟩
      · have := hlt5 g hg
        omega
      · have := hlt5 g hg
        omega
    have HI5 : Hid _ := hIn
    clear hft T1 BW5 hI5 hIn hW5 hth b6 b7 hrel hx1 hx2 HI HWW hm1
    obtain ⟨tm, df⟩ := x
    obtain ⟨t0, t1, t2, t3, t4, t5, t6, t7, t8, t9, t10, t11, t12, t13, t14, t15, t16, t17, t18, t19, t20, t21, t22, t23, t24, t25, t26, t27, t28, t29, t30, t31, t32, t33, t34, t35, t36, t37, t38, t39, t40, t41, t42, t43, t44, t45, t46, t47, rfl⟩ := arr48 tm (by simpa using hts)
    simp [Act.eval] at e6 e7 f2 f3 f6 f7 hdf
    subst e6 e7 f2 f3 f6 f7 hdf
    rename_i hK
    refine hK _ _ ?_
    simp only [Act.put]
    go_wp2_with fail
    generalize Value.agg (fetA a len cap d bd gk) = t32
    go_loopw [9] (fun i wr => ∃ n : Nat, n ≤ N ∧ i = .int .i64 n ∧ IInv w wr w1.heap.size gF gk (.cells #[.slice a len cap, .int .i64 d, .int .i64 bd] 25) (.cells #[.slice none 0 0, .int .u32 0, .slice none 0 0, .slice none 0 0, .slice none 0 0, .slice none 0 0, .int .u32 0, .int .i64 0] 32) a len cap d bd codes (runM codes bd c0 n)) (fun i _ => N - (intOf i).toNat)
    case atStart => exact ⟨0, Nat.zero_le _, rfl, HI5.out⟩
    case round =>
      obtain ⟨n, hn, rfl, hR⟩ := hrel
      have hG := runM_good codes bd c0 HG.out.1 HG.out.2.2.1 HG.out.2.2.2.2.2.2.1 n
      have hE : runM codes bd c0 N = runM codes bd c0 n ∨ (n < N ∧ (runM codes bd c0 n).st = 0) := by
        by_cases h1 : n < N
        · by_cases h2 : (runM codes bd c0 n).st = 0
          · exact .inr ⟨h1, h2⟩
          · refine .inl ?_
            rw [show N = n + (N - n) by omega]
            exact runM_stop codes bd c0 n h2 _
        · obtain rfl : n = N := by omega
          exact .inl rfl
      have hx : ¬ (n < N ∧ (runM codes bd c0 n).st = 0) ∨ StepIs codes bd (runM codes bd c0 n) (runM codes bd c0 (n + 1)) := by
        by_cases h2 : (runM codes bd c0 n).st = 0
        · refine .inr ?_
          rw [show runM codes bd c0 (n + 1) = (if (runM codes bd c0 n).st = 0 then nextM codes bd (runM codes bd c0 n) else runM codes bd c0 n) from rfl, if_pos h2]
          exact nextM_ok codes bd _ hG.1 h2 (by rw [hG.2.2]; exact HG.out.2.2.1) HG.out.2.2.2.2.2.2.1
        · exact .inl (fun h => h2 h.2)
      have HP : Hid _ := And.intro hE (And.intro hx hG.1)
      clear hE hx HI5 hG
      generalize hnx : runM codes bd c0 (n + 1) = nx at *
      generalize hcc : runM codes bd c0 n = c at *
      obtain ⟨L, hin, hL, hM, hRo, hco, hcbk, hBW, hft, hCb, hF1, hF2⟩ := hR
      obtain ⟨r, dd, s, i, o, hBx, L0, hL0, hcv, n1, n2, n3, n4, n5, a1, b1, a2, b2, a3, b3, a4, b4, a5, b5, rfl, rfl, rfl, rfl, rfl⟩ := hin.value
      obtain rfl : L = L0 := (List.cons.inj hL0).2
      obtain ⟨t50, t51, t52, t53, t54, t55, t56, t57, tff⟩ := id hBx
      have RB := Bx.of_heap hRo
      have HS : Hid _ := And.intro hin (And.intro hcv (And.intro hL (And.intro hM (And.intro hRo (And.intro hco (And.intro hcbk (And.intro hBW (And.intro hft (And.intro hCb (And.intro hF1 (And.intro hF2 hBx)))))))))))
      clear hin hcv hL hM hRo hco hcbk hBW hft hBx hL0
      have hnI : (n : Int) ≤ (N : Int) := by omega
      by_cases hgo : n < N ∧ c.st = 0
      · have hlt : (n : Int) < (N : Int) := by omega
        have hst : (c.st == 0) = true := by rw [hgo.2]; rfl
        have HN : Hid _ := And.intro hgo (HP.out.2.1.resolve_left (fun h => h hgo))
        clear hgo RB
        go_wp2_with fail
        refine (fe_any gF gk a len cap d bd c.pc codes wr HS.out.2.2.2.2.2.2.2.2.1 HG.out.2.2.2.2.2.2.1 HG.out.2.2.2.2.2.1 HP.out.2.2.pcu HS.out.2.2.2.2.2.1 (fun g hg e => by have := HS.out.2.2.2.2.2.2.1 g hg; omega)).mono ?_
        rintro e w2 ⟨rfl, hft2, ht2⟩
        have hin2 : CpuIn w2 w1.heap.size (w1.heap.size :: L) c := HS.out.1.tcs ht2 (fun g hg e => by
          rw [List.mem_cons] at hg
          rcases hg with rfl | hg
          · omega
          · exact (HS.out.2.2.1 g hg).2.2.2 e)
        have H2 : Hid _ := And.intro hft2 (And.intro ht2 hin2)
        clear hft2 ht2 hin2 t50 t51 t52 t53 t54 t55 t56 t57 tff
        go_wp2_with fail
        refine ((HN.out.2).1 w1.heap.size (w1.heap.size :: L) w2 H2.out.2.2).mono ?_
        rintro e w3 ⟨rfl, L3, hin3, hm3, ht3⟩
        have H3 : Hid _ := And.intro hin3 (And.intro hm3 ht3)
        clear hin3 hm3 ht3
        go_wp2
        go_roundw
        case rel =>
          obtain ⟨hin, hcv, hL, hM, hRo, hco, hcbk, hBW, hft, _, _, _, hBx⟩ := HS.out
          obtain ⟨hft2, ht2, hin2⟩ := H2.out
          obtain ⟨hin3, hm3, ht3⟩ := H3.out
          obtain ⟨_, _, _, _, _, _, L4, rfl, _⟩ := hin3.value
          have z1 := hBW.size
          have z2 := ht2.size
          have z3 := hBx.lt
          have z4 := hft2.lt
          have z5 := hft2.kl
          have hS : ∀ k, k ∈ w1.heap.size :: L → w.heap.size + 1 < k ∧ k ≠ gF ∧ k ≠ gk := fun k hk => by
            rw [List.mem_cons] at hk
            rcases hk with rfl | hk
            · omega
            · have := hL k hk
              exact ⟨this.1, this.2.2.1, this.2.2.2⟩
          have hnd4 : w1.heap.size ∉ L4 := (List.nodup_cons.mp (by obtain ⟨_, _, _, _, _, _, _, _, _, _, _, _, hl, hnd⟩ := hin3; exact hnd)).1
          refine ⟨n + 1, by have := HN.out.1; omega, by go_num, ?_⟩
          rw [hnx]
          refine ⟨L4, hin3, fun g hg => ?_, ?_, ?_, ?_, hcbk, ?_, hft2.tcs ht3 (fun e => (hS _ e).2.1 rfl) (fun e => (hS _ e).2.2 rfl), hCb, hF1, hF2⟩
          · have hne : g ≠ w1.heap.size := fun e => hnd4 (e ▸ hg)
            rcases hm3 g (List.mem_cons_of_mem _ hg) with h | h
            · have := hS g h
              exact ⟨this.1, hne, this.2.1, this.2.2⟩
            · exact ⟨by omega, hne, by omega, by omega⟩
          · exact (ht3.block _ (by omega) (fun e => by have := hS _ e; omega)).trans ((ht2.block _ (by omega) (by omega)).trans hM)
          · exact (ht3.block _ (by omega) (fun e => by have := hS _ e; omega)).trans ((ht2.block _ (by omega) (by omega)).trans hRo)
          · exact (hco.tcs ht2 (fun g hg e => by have := hcbk g hg; omega)).tcs ht3 (fun g hg e => by have := hcbk g hg; have := hS _ e; omega)
          · exact ht3.below (ht2.below hBW hBW.size (by rintro k rfl; omega)) (by omega) (fun k hk => by have := hS k hk; omega)
        case measure => have := HN.out.1; simp [intOf]; omega
      · have HN : Hid _ := HP.out.1.resolve_right hgo
        obtain ⟨z0, z1, z2, z3, z4, z5, z6, z7, zf⟩ := id RB
        by_cases h1 : n < N
        · have hlt : (n : Int) < (N : Int) := by omega
          have hst : (c.st == 0) = false := by simp; intro h; exact hgo ⟨h1, h⟩
          clear hgo RB h1
          go_wp2
          refine bodyPost_ret (v := .agg #[.slice a1 n1 b1, .int .u32 c.pc, .slice a2 n2 b2, .slice a3 n3 b3, .slice a4 n4 b4, .slice a5 n5 b5, .int .u32 c.low, .int .i64 c.st]) (by simp [results, Try.results7, go_sem, z0, z1, z2, z3, z4, z5, z6, z7]) rfl ?_
          obtain ⟨hin, hcv, hL, hM, hRo, hco, hcbk, hBW, hft, _, _, _, hBx⟩ := HS.out
          rw [HN.out]
          have TR := (Tcs.refl (fun k => k = w.heap.size + 1) wr).set8 _ rfl (.slice a1 n1 b1) (.int .u32 c.pc) (.slice a2 n2 b2) (.slice a3 n3 b3) (.slice a4 n4 b4) (.slice a5 n5 b5) (.int .u32 c.low) (.int .i64 c.st)
          exact ⟨_, rfl, (hcv.tcs TR (fun g hg e => by have := hL g hg; omega)).toAt (fun g hg => by have := hL g hg; omega), TR.below hBW hBW.size (by rintro k rfl; omega)⟩
        · have hge : ¬ (n : Int) < (N : Int) := by omega
          clear hgo RB h1
          go_wp2
          refine bodyPost_ret (v := .agg #[.slice a1 n1 b1, .int .u32 c.pc, .slice a2 n2 b2, .slice a3 n3 b3, .slice a4 n4 b4, .slice a5 n5 b5, .int .u32 c.low, .int .i64 c.st]) (by simp [results, Try.results7, go_sem, z0, z1, z2, z3, z4, z5, z6, z7]) rfl ?_
          obtain ⟨hin, hcv, hL, hM, hRo, hco, hcbk, hBW, hft, _, _, _, hBx⟩ := HS.out
          rw [HN.out]
          have TR := (Tcs.refl (fun k => k = w.heap.size + 1) wr).set8 _ rfl (.slice a1 n1 b1) (.int .u32 c.pc) (.slice a2 n2 b2) (.slice a3 n3 b3) (.slice a4 n4 b4) (.slice a5 n5 b5) (.int .u32 c.low) (.int .i64 c.st)
          exact ⟨_, rfl, (hcv.tcs TR (fun g hg e => by have := hL g hg; omega)).toAt (fun g hg => by have := hL g hg; omega), TR.below hBW hBW.size (by rintro k rfl; omega)⟩

end Go.Proofs.Ytabjcodpagjbjaa
