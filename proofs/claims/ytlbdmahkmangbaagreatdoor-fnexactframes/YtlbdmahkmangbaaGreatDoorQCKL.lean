import Derived.Test.YtlbdmahkmangbaaGreatDoorQCKI
import Derived.Test.YtlbdmahkmangbaaGreatDoorQCA0
import Derived.Deep.RegionHeld3
set_option linter.unusedSectionVars false
variable [Inhabited Go.Proofs.YtlbdmahkmangbaaGreatDoor.Pick]
namespace Go.Proofs.YtlbdmahkmangbaaGreatDoor
open Go.RowKit
set_option linter.unusedVariables false
set_option linter.unusedSimpArgs false

theorem split_at_ {α : Type} (l : List α) (j : Nat) (h : j < l.length) : l = l.take j ++ l[j] :: l.drop (j + 1) := by
  rw [List.getElem_cons_drop, List.take_append_drop]
theorem split_at2 {α : Type} (l r : List α) (j : Nat) (h : j < l.length) : l ++ r = l.take j ++ l[j] :: (l.drop (j + 1) ++ r) := by
  calc l ++ r = (l.take j ++ l[j] :: l.drop (j + 1)) ++ r := by rw [← split_at_ l j h]
    _ = _ := by rw [List.append_assoc, List.cons_append]
theorem exprE_more {t : Tr} {sc : List ByteArray} {a : List Nd} {n : Nd} (h : exprE t sc a = 0) (hn : nodeE t sc n = 0) : exprE t sc (a ++ [n]) = 0 := by
  rw [exprE_append, if_pos h]
  simp [exprE, hn]
theorem exprE_stop {t : Tr} {sc : List ByteArray} {a : List Nd} {n : Nd} {r : List Nd} (h : exprE t sc a = 0) (hn : nodeE t sc n ≠ 0) : exprE t sc (a ++ n :: r) = nodeE t sc n := by
  rw [exprE_append, if_pos h]
  simp [exprE, hn]
theorem stmtE_expr {t : Tr} {sc tk : List ByteArray} {s : St} (h : exprE t sc (s.e ++ s.f) ≠ 0) : stmtE t sc tk s = exprE t sc (s.e ++ s.f) := by
  unfold stmtE; rw [if_pos h]
theorem stmtE_decl {t : Tr} {sc tk : List ByteArray} {s : St} (h : exprE t sc (s.e ++ s.f) = 0) (hk : s.kind = 1) : stmtE t sc tk s = if inS tk s.name = true ∨ 0 ≤ globI t.globals s.name then 2 else 0 := by
  unfold stmtE; rw [if_neg (by simp [h]), if_pos hk]
theorem stmtE_use {t : Tr} {sc tk : List ByteArray} {s : St} (h : exprE t sc (s.e ++ s.f) = 0) (hk : s.kind = 2 ∨ s.kind = 3) : stmtE t sc tk s = useE t.globals sc s.name (decide (s.kind = 3)) := by
  unfold stmtE; rw [if_neg (by simp [h]), if_neg (by omega), if_pos hk]
theorem stmtE_none {t : Tr} {sc tk : List ByteArray} {s : St} (h : exprE t sc (s.e ++ s.f) = 0) (h1 : s.kind ≠ 1) (h2 : s.kind ≠ 2) (h3 : s.kind ≠ 3) : stmtE t sc tk s = 0 := by
  unfold stmtE; rw [if_neg (by simp [h]), if_neg h1, if_neg (by omega)]

set_option maxRecDepth 100000 in
set_option maxHeartbeats 4000000 in
/-- (*checker).statement. -/
theorem stmtK {E : Ev} {w : World} {bsn : List (List ByteArray)} {xs : List ByteArray} {bi : List Nat} {b : Nat} {v : Value} {bt : Nat} {tk : List ByteArray} {fn st : Int} (h : Cs E w (bsn ++ [xs]) (bi ++ [b]) v bt tk fn st) (hgf : E.gf = globF E.t.globals) (hgp : E.gp = fun s => decide (0 ≤ globI E.t.globals s)) (hp : ∀ g ∈ E.t.globals, 0 ≤ g.size) (hfl : E.t.funcs.length ≤ 1048576)
    (s : St) (ve vf : Value) (he : Nodes w ve s.e) (hf : Nodes w vf s.f) (hsm : smallS s) (hwf : wfSt s) (htk : tk.length ≤ 1000000) (hxs : xs.length ≤ 1000000) :
    Calls Tryz.prog 115 #[.pointer (some ⟨E.C, 0, none⟩), .agg #[.int .i64 s.kind, .string s.name, ve, vf, .int .i64 s.thn, .int .i64 s.els]] w fun e w' => e = .returned (errV (stmtE E.t (bsn ++ [xs]).flatten tk s) fn st) ∧
      (∃ xs' tk', Cs E w' (bsn ++ [xs']) (bi ++ [b]) v bt tk' fn st ∧ (stmtE E.t (bsn ++ [xs]).flatten tk s = 0 → xs' = scp s xs ∧ tk' = scp s tk)) ∧ Tcs (fun k => k = bt ∨ k = b) w w' := by
  obtain ⟨sc, hsc⟩ : ∃ sc, sc = (bsn ++ [xs]).flatten := ⟨_, rfl⟩
  rw [← hsc]
  have HSC : Hid (sc = (bsn ++ [xs]).flatten) := hsc
  clear hsc
  have HCs : Hid (Cs E w (bsn ++ [xs]) (bi ++ [b]) v bt tk fn st) := h
  have HNe : Hid (Nodes w ve s.e) := he
  have HNf : Hid (Nodes w vf s.f) := hf
  have HS : Hid (smallS s) := hsm
  have HWs : Hid (wfSt s) := hwf
  have HGF : Hid (E.gf = globF E.t.globals) := hgf
  have HGP : Hid (∀ s, (E.gp s = true) = (0 ≤ globI E.t.globals s)) := fun s => by rw [hgp]; simp
  have HP : Hid (∀ g ∈ E.t.globals, 0 ≤ g.size) := hp
  obtain ⟨ae, ce, rfl, -⟩ := he
  obtain ⟨af, cf, rfl, -⟩ := hf
  have hZ0 : s.name.size ≤ maxLen := by have := hwf.1; unfold maxLen; omega
  clear h hsm hwf hp hgf hgp
  go_enter Tryz.func115, Tryz.ntmps115
  go_wp2_with fail
  refine (exprs_any _ _ _ _ _ _ _ _ _ _ _).mono ?_
  rintro e w1 ⟨rfl, hb1⟩
  simp only [World.size_alloc] at hb1
  have HB1 : Hid (Below (w.heap.size + 1) (w.alloc (.cells #[.int .i64 s.kind, .string s.name, .slice ae s.e.length ce, .slice af s.f.length cf, .int .i64 s.thn, .int .i64 s.els] 82)) w1) := hb1
  clear hb1
  go_wp2_with fail
  go_loopw [13] (fun i w2 => ∃ (m : Nat), m ≤ 2 ∧ i = .int .i64 m ∧ exprE E.t sc (upTo s m) = 0 ∧ Below (w.heap.size + 1) (w.alloc (.cells #[.int .i64 s.kind, .string s.name, .slice ae s.e.length ce, .slice af s.f.length cf, .int .i64 s.thn, .int .i64 s.els] 82)) w2) (fun i _ => 2 - (RowKit.intOf i).toNat)
  case atStart => exact ⟨0, Nat.zero_le _, rfl, rfl, HB1.out⟩
  case round =>
    obtain ⟨m, hm, rfl, hz, hB⟩ := hrel
    have HZ : Hid (exprE E.t sc (upTo s m) = 0) := hz
    clear HB1 hz
    by_cases hm2 : m < 2
    · obtain ⟨va, el, ca, hidx, hel, hnext, ⟨rest, hrest⟩, hll, hwfs⟩ : ∃ (va : Option Addr) (el : List Nd) (ca : Nat), (∀ W, (Instr.index 114 (.agg #[.slice ae s.e.length ce, .slice af s.f.length cf]) (.int .i64 (m : Int))).run Tryz.prog W = .ok (.slice va el.length ca) W) ∧ Nodes w (.slice va el.length ca) el ∧ upTo s (m + 1) = upTo s m ++ el ∧ (∃ rest, s.e ++ s.f = upTo s m ++ el ++ rest) ∧ el.length ≤ 1048576 ∧ (∀ n ∈ el, n.name.size ≤ 9223372036854775807) := by
        have h01 : m = 0 ∨ m = 1 := by omega
        rcases h01 with rfl | rfl
        · exact ⟨ae, s.e, ce, fun W => idx0 _ _ W, HNe.out, by simp [upTo], ⟨s.f, by simp [upTo]⟩, HS.out.1, HWs.out.2.1.2⟩
        · exact ⟨af, s.f, cf, fun W => idx1 _ _ W, HNf.out, by simp [upTo], ⟨[], by simp [upTo]⟩, HS.out.2, HWs.out.2.2.2⟩
      have HX : Hid (upTo s (m + 1) = upTo s m ++ el) := hnext
      have HRe : Hid (s.e ++ s.f = upTo s m ++ el ++ rest) := hrest
      have HWn : Hid (∀ n ∈ el, n.name.size ≤ 9223372036854775807) := hwfs
      generalize upTo s m = mid at HZ HX HRe
      obtain ⟨_, _, he0, -, -, hec⟩ := hel
      simp only [Value.slice.injEq] at he0
      obtain ⟨rfl, -, rfl⟩ := he0
      have HEC : Hid (0 < el.length → ∃ b off, va = some ⟨b, off, none⟩ ∧ NodesC w b off el) := hec
      clear hec hnext hwfs hrest
      have hm2d : decide ((m : Int) < 2) = true := by rw [decide_eq_true_iff]; omega
      go_wp2_with fail
      go_loopw [18] (fun i w4 => ∃ (j : Nat), j ≤ el.length ∧ i = .int .i64 j ∧ exprE E.t sc (mid ++ el.take j) = 0 ∧ Below (w.heap.size + 1) (w.alloc (.cells #[.int .i64 s.kind, .string s.name, .slice ae s.e.length ce, .slice af s.f.length cf, .int .i64 s.thn, .int .i64 s.els] 82)) w4) (fun i _ => el.length - (RowKit.intOf i).toNat)
      case atStart => exact ⟨0, Nat.zero_le _, rfl, by simpa using HZ.out, hB⟩
      case round =>
        clear hidx hB
        obtain ⟨j, hj, rfl, hz4, hB⟩ := hrel
        have HZ4 : Hid (exprE E.t sc (mid ++ el.take j) = 0) := hz4
        clear hz4
        have hBw := one_below hB
        by_cases hjl : j < el.length
        · obtain ⟨bn, on, rfl, hcn⟩ := HEC.out (by omega)
          obtain ⟨c0, c1, c2⟩ := (hcn.below hBw) j hjl
          have HNm : Hid (el[j].name.size ≤ maxLen) := by
            have := HWn.out el[j] (List.getElem_mem hjl)
            show _ ≤ _
            unfold maxLen; omega
          have HT : Hid (mid ++ el.take (j + 1) = mid ++ el.take j ++ [el[j]]) := by show _ = _; rw [take_succ el j hjl]; simp
          have HL : Hid (s.e ++ s.f = mid ++ el.take j ++ el[j] :: (el.drop (j + 1) ++ rest)) := by
            show _ = _
            rw [HRe.out, List.append_assoc, split_at2 el rest j hjl, List.append_assoc]
          clear hcn
          generalize el[j] = n at c0 c1 c2 HNm HT HL
          have hBa : Below w.heap.size w (wr.alloc (.cells #[.int .i64 n.kind, .int .i64 n.val, .string n.name] 136)) := hBw.alloc hBw.size _
          have hsz := hB.size
          simp only [World.size_alloc] at hsz
          go_wp2_with fail
          refine (nodeK_any ((HCs.out.below hBa).ck HGF.out) HP.out hfl n HNm.out).mono ?_
          rintro e w5 ⟨rfl, hb5⟩
          simp only [World.size_alloc] at hb5
          rw [← HSC.out]
          have hB5 : Below (w.heap.size + 1) (w.alloc (.cells #[.int .i64 s.kind, .string s.name, .slice ae s.e.length ce, .slice af s.f.length cf, .int .i64 s.thn, .int .i64 s.els] 82)) w5 := hB.trans ((one_below hb5).mono hsz)
          clear hb5 c0 c1 c2 hBa hB hBw
          by_cases hn : nodeE E.t sc n = 0
          · have HN : Hid (nodeE E.t sc n = 0) := hn
            rw [hn, errV_zero]
            clear hn
            go_wp2_with fail
            go_roundw
            case rel => exact ⟨j + 1, by omega, by go_num, by rw [HT.out]; exact exprE_more HZ4.out HN.out, hB5⟩
            case measure => simp [RowKit.intOf]; omega
          · have HN : Hid (stmtE E.t sc tk s = nodeE E.t sc n) := by
              have e1 : exprE E.t sc (s.e ++ s.f) = nodeE E.t sc n := by rw [HL.out]; exact exprE_stop HZ4.out hn
              show _ = _
              rw [stmtE_expr (by rw [e1]; exact hn), e1]
            have HN0 : Hid (nodeE E.t sc n ≠ 0) := hn
            rw [errV_ne hn]
            generalize nodeE E.t sc n = z at HN HN0 ⊢
            clear hn
            go_wp2_with fail
            go_ret
            exact ⟨ret_val (by rw [HN.out, errV_ne HN0.out]; rfl), ⟨xs, tk, HCs.out.below (one_below hB5), fun h => absurd (HN.out.symm.trans h) HN0.out⟩, (one_below hB5).tcs⟩
        · have HD : Hid (upTo s (m + 1) = mid ++ el.take j) := by show _ = _; rw [HX.out, List.take_of_length_le (by omega)]
          go_wp2_with fail
          go_roundw
          case rel => exact ⟨m + 1, by omega, by go_num, by rw [HD.out]; exact HZ4.out, hB⟩
          case measure => simp [RowKit.intOf]; omega
    · have HQ : Hid (exprE E.t sc (s.e ++ s.f) = 0) := by
        have := HZ.out
        have hm' : m = 2 := by omega
        subst hm'
        exact this
      clear HZ
      have hBw := one_below hB
      obtain ⟨x0, x1, -⟩ := box6 hB
      have hm2d : decide ((m : Int) < 2) = false := by rw [decide_eq_false_iff_not]; omega
      by_cases hk1 : s.kind = 1
      · have hk1' := hk1
        rw [hk1] at x0
        by_cases hx : inS tk s.name = true ∨ 0 ≤ globI E.t.globals s.name
        · have HE : Hid (stmtE E.t sc tk s = 2) := by show _ = _; rw [stmtE_decl HQ.out hk1, if_pos hx]
          have HX : Hid (inS tk s.name = true ∨ 0 ≤ globI E.t.globals s.name) := hx
          clear hx
          go_wp2_with fail
          refine (takeOld (HCs.out.below hBw) hZ0 (by rw [HGP.out]; exact HX.out)).mono ?_
          rintro e w2 ⟨rfl, hw⟩
          rw [hw, errV_ne (by decide)]
          clear hw
          go_wp2_with fail
          go_ret
          exact ⟨ret_val (by rw [HE.out]; rfl), ⟨xs, tk, HCs.out.below hBw, fun h => absurd (HE.out.symm.trans h) (by decide)⟩, hBw.tcs⟩
        · have HE : Hid (stmtE E.t sc tk s = 0) := by show _ = _; rw [stmtE_decl HQ.out hk1, if_neg hx]
          have HX : Hid (¬ (inS tk s.name = true ∨ 0 ≤ globI E.t.globals s.name)) := hx
          clear hx
          go_wp2_with fail
          refine (takeNew (HCs.out.below hBw) hZ0 (by omega) (by rw [HGP.out]; exact HX.out)).mono ?_
          rintro e w2 ⟨rfl, hc2, ht2⟩
          have HC2 : Hid (Cs E w2 (bsn ++ [xs]) (bi ++ [b]) v bt (tk ++ [s.name]) fn st) := hc2
          have HT2 : Hid (Tcs (fun k => k = bt) wr w2) := ht2
          have hne : w.heap.size ≠ bt := by have := HCs.out.lt bt (by simp); omega
          have hsz := hB.size
          simp only [World.size_alloc] at hsz
          have y1 : w2.cell? ⟨w.heap.size, 1, none⟩ = some (.string s.name) := (World.cell?_of_block (a := ⟨w.heap.size, 1, none⟩) (HT2.out.block w.heap.size (by omega) hne)).trans x1
          have HL2 : Hid (w.heap.size < w2.drew.heap.size) := Nat.lt_of_lt_of_le (by omega) HT2.out.size
          have HN2 : Hid (¬ w.heap.size = b) := by have := HCs.out.lt b (by simp); show ¬ _; omega
          clear hc2 ht2 x0 x1
          go_wp2_with fail
          go_region_held3 (fun W => W.cell? ⟨w.heap.size, 1, none⟩ = some (.string s.name)) (go_simp)
            (first
            | (go_at_call 87; refine (addK (HC2.out.below ((Below.refl _ _).drew)) hZ0 (by omega)).mono ?_; rintro e w3 ⟨⟨u, rfl⟩, hc3, ht3⟩; have hcc : w3.cell? ⟨w.heap.size, 1, none⟩ = some (.string s.name) := (World.cell?_of_block (a := ⟨w.heap.size, 1, none⟩) (ht3.block w.heap.size HL2.out HN2.out)).trans y1))
          go_wp2_with fail
          go_ret
          exact ⟨ret_val (by rw [HE.out]; rfl), ⟨xs ++ [s.name], tk ++ [s.name], hc3, fun _ => ⟨(scp_yes hk1' xs).symm, (scp_yes hk1' tk).symm⟩⟩, (((hBw.tcs (S := fun k => k = bt ∨ k = b)).trans (HT2.out.mono (fun k h => .inl h))).drew).trans (ht3.mono (fun k h => .inr h))⟩
      by_cases hk2 : s.kind = 2
      · have HE : Hid (stmtE E.t sc tk s = useE E.t.globals sc s.name false) := by
          show _ = _
          rw [stmtE_use HQ.out (.inl hk2)]
          simp [hk2]
        have HK : Hid (s.kind ≠ 1) := hk1
        rw [hk2] at x0
        clear hk2
        go_wp2_with fail
        refine (useC_any ((HCs.out.below hBw).ck HGF.out) HP.out s.name hZ0 false).mono ?_
        rintro e w2 ⟨rfl, hb2⟩
        rw [← HSC.out, ← HE.out]
        have hB2 : Below w.heap.size w w2 := hBw.trans (hb2.mono hBw.size)
        obtain ⟨ev, hev⟩ : ∃ ev, ev = errV (stmtE E.t sc tk s) fn st := ⟨_, rfl⟩
        rw [← hev]
        have HV : Hid (ev = errV (stmtE E.t sc tk s) fn st) := hev
        clear hev hb2
        go_wp2_with fail
        go_ret
        exact ⟨ret_val HV.out, ⟨xs, tk, HCs.out.below hB2, fun _ => ⟨(scp_no HK.out xs).symm, (scp_no HK.out tk).symm⟩⟩, hB2.tcs⟩
      by_cases hk3 : s.kind = 3
      · have HE : Hid (stmtE E.t sc tk s = useE E.t.globals sc s.name true) := by
          show _ = _
          rw [stmtE_use HQ.out (.inr hk3)]
          simp [hk3]
        have HK : Hid (s.kind ≠ 1) := hk1
        rw [hk3] at x0
        clear hk3
        go_wp2_with fail
        refine (useC_any ((HCs.out.below hBw).ck HGF.out) HP.out s.name hZ0 true).mono ?_
        rintro e w2 ⟨rfl, hb2⟩
        rw [← HSC.out, ← HE.out]
        have hB2 : Below w.heap.size w w2 := hBw.trans (hb2.mono hBw.size)
        obtain ⟨ev, hev⟩ : ∃ ev, ev = errV (stmtE E.t sc tk s) fn st := ⟨_, rfl⟩
        rw [← hev]
        have HV : Hid (ev = errV (stmtE E.t sc tk s) fn st) := hev
        clear hev hb2
        go_wp2_with fail
        go_ret
        exact ⟨ret_val HV.out, ⟨xs, tk, HCs.out.below hB2, fun _ => ⟨(scp_no HK.out xs).symm, (scp_no HK.out tk).symm⟩⟩, hB2.tcs⟩
      · have HE : Hid (stmtE E.t sc tk s = 0) := stmtE_none HQ.out hk1 hk2 hk3
        have HK : Hid (s.kind ≠ 1) := hk1
        have b1 : (s.kind == 1) = false := by simpa using hk1
        have b2 : (s.kind == 2) = false := by simpa using hk2
        have b3 : (s.kind == 3) = false := by simpa using hk3
        go_wp2_with fail
        go_ret
        exact ⟨ret_val (by rw [HE.out]; rfl), ⟨xs, tk, HCs.out.below hBw, fun _ => ⟨(scp_no HK.out xs).symm, (scp_no HK.out tk).symm⟩⟩, hBw.tcs⟩

end Go.Proofs.YtlbdmahkmangbaaGreatDoor
