import Derived.Test.YtlamjfhhefcohaaGreatDoorM26
import Derived.Deep.CutRange
namespace Go.Proofs.YtlamjfhhefcohaaGreatDoor
set_option linter.unusedVariables false
set_option linter.unusedSimpArgs false
set_option maxRecDepth 100000
set_option maxHeartbeats 16000000
section
open Go.RowKit
set_option maxRecDepth 100000 in
set_option maxHeartbeats 4000000 in
theorem heldSo_any (v : Value) (ss : List St) (q : Nat) (w : World) (hn : ss.length ≤ 1048576) (hsm : ∀ s ∈ ss, smallS s) (h0 : 0 < q) (hq : (q : Int) + (sumBy cntS ss : Nat) ≤ 1000000000) (h : Stmts w v (mkS q ss)) :
  Calls Tryz.prog 103 #[v, .int .i64 q] w fun e w' => e = .returned (.int .i64 ((q + sumBy cntS ss : Nat) : Int)) ∧ Below w.heap.size w w' := by
 obtain ⟨a, cap, rfl, -, -, hc⟩ := h
 rw [mkS_len] at *
 have H : Hid (0 < ss.length → ∃ b off, a = some ⟨b, off, none⟩ ∧ StmtsC w b off (mkS q ss)) := hc
 have HSM : Hid (∀ s ∈ ss, smallS s) := hsm
 have HK : Hid ((q : Int) + (sumBy cntS ss : Nat) ≤ 1000000000) := hq
 clear hc hsm hq
 go_enter Tryz.func103, Tryz.ntmps103
 go_wp2_with fail
 go_loopw [1, 5] (fun kk i wr => ∃ k : Nat, k ≤ ss.length ∧ i = .int .i64 k ∧ kk = .int .i64 ((q + sumBy cntS (ss.take k) : Nat) : Int) ∧ Below w.heap.size w wr) (fun _ i _ => ss.length - (RowKit.intOf i).toNat)
 case atStart => exact ⟨0, Nat.zero_le _, rfl, by simp [sumBy], Below.refl _ _⟩
 case round =>
  obtain ⟨k, hk, rfl, rfl, hB⟩ := hrel
  by_cases hlt : k < ss.length
  ·obtain ⟨b, off, rfl, hcc⟩ := H.out (by omega)
   obtain ⟨ve, vf, ⟨c0, c1, c2, c3, c4, c5⟩, hve, hvf⟩ := (hcc.below hB) k (by rw [mkS_len]; exact hlt)
   rw [mkS_get q ss k hlt] at c0 c1 c4 c5 hve hvf
   have hst := sumBy_step cntS ss k hlt
   have hle := sumBy_le cntS ss (k + 1)
   have hcs : cntS ss[k] = 4 + 3 * ss[k].e.length + 3 * ss[k].f.length := rfl
   have hKK := HK.out
   obtain ⟨hse, hsf⟩ := HSM.out ss[k] (List.getElem_mem hlt)
   obtain ⟨z, hz⟩ : ∃ z : Nat, q + sumBy cntS (ss.take k) = z := ⟨_, rfl⟩
   have HZ : Hid (q + sumBy cntS (ss.take (k + 1)) = z + 4 + 3 * ss[k].e.length + 3 * ss[k].f.length) := by show _ = _; omega
   rw [hz] at c0 c1 c4 c5 hve hvf ⊢
   have hve' : Nodes wr ve (mkN (z + 2) ss[k].e) := hve
   have hvf' : Nodes wr vf (mkN (z + 2 + 3 * ss[k].e.length) ss[k].f) := hvf
   have c0' : wr.cell? ⟨b, off + k * 6, none⟩ = some (.int .i64 (z : Int)) := c0
   have c1' : wr.cell? ⟨b, off + k * 6 + 1, none⟩ = some (.string (mtxt (z + 1))) := c1
   have hzb : (z : Int) + 4 + 3 * ss[k].e.length + 3 * ss[k].f.length ≤ 1000000000 := by omega
   have hz0 : 0 < z := by omega
   obtain ⟨ne, hne⟩ : ∃ ne, ss[k].e.length = ne := ⟨_, rfl⟩
   obtain ⟨nf, hnf⟩ : ∃ nf, ss[k].f.length = nf := ⟨_, rfl⟩
   have c4' : wr.cell? ⟨b, off + k * 6 + 4, none⟩ = some (.int .i64 ((z + 2 + 3 * ss[k].e.length + 3 * ss[k].f.length : Nat) : Int)) := c4
   have c5' : wr.cell? ⟨b, off + k * 6 + 5, none⟩ = some (.int .i64 ((z + 3 + 3 * ss[k].e.length + 3 * ss[k].f.length : Nat) : Int)) := c5
   rw [hne, hnf] at c4' c5' HZ hzb
   obtain ⟨y1, hy1⟩ : ∃ y1, z + 2 + 3 * ne = y1 := ⟨_, rfl⟩
   obtain ⟨y2, hy2⟩ : ∃ y2, y1 + 3 * nf = y2 := ⟨_, rfl⟩
   have HE : Hid (∀ W, Below wr.heap.size wr W → Calls Tryz.prog 136 #[ve, .int .i64 ((z + 2 : Nat) : Int)] W fun e w' => e = .returned (.int .i64 ((y1 : Nat) : Int)) ∧ Below W.heap.size W w') := fun W hW => by
    have := heldNo_any ve ss[k].e (z + 2) W hse (by omega) (by omega) (hve'.below hW)
    rw [hne, hy1] at this
    exact this
   have HF : Hid (∀ W, Below wr.heap.size wr W → Calls Tryz.prog 136 #[vf, .int .i64 ((y1 : Nat) : Int)] W fun e w' => e = .returned (.int .i64 ((y2 : Nat) : Int)) ∧ Below W.heap.size W w') := fun W hW => by
    rw [hne, hy1] at hvf'
    have := heldNo_any vf ss[k].f y1 W hsf (by omega) (by omega) (hvf'.below hW)
    rw [hnf, hy2] at this
    exact this
   have HC4 : Hid (wr.cell? ⟨b, off + k * 6 + 4, none⟩ = some (.int .i64 (y2 : Int)) ∧ wr.cell? ⟨b, off + k * 6 + 5, none⟩ = some (.int .i64 ((y2 : Int) + 1))) := by
    rw [show z + 2 + 3 * ne + 3 * nf = y2 by omega] at c4'
    rw [show ((z + 3 + 3 * ne + 3 * nf : Nat) : Int) = (y2 : Int) + 1 by omega] at c5'
    exact ⟨c4', c5'⟩
   have HYs : Hid (z + 4 + 3 * ne + 3 * nf = y2 + 2) := by show _ = _; omega
   have hyb : (y2 : Int) + 2 ≤ 1000000000 := by omega
   have hyb1 : (y1 : Int) ≤ y2 := by omega
   obtain ⟨ae, ce, rfl, -⟩ := hve'
   obtain ⟨af, cf, rfl, -⟩ := hvf'
   obtain ⟨le, hle'⟩ : ∃ le, (mkN (z + 2) ss[k].e).length = le := ⟨_, rfl⟩
   obtain ⟨lf, hlf'⟩ : ∃ lf, (mkN (z + 2 + 3 * ss[k].e.length) ss[k].f).length = lf := ⟨_, rfl⟩
   rw [hle'] at c2 HE
   rw [hlf'] at c3 HF
   have HC2 : Hid (wr.cell? ⟨b, off + k * 6 + 2, none⟩ = some (.slice ae le ce) ∧ wr.cell? ⟨b, off + k * 6 + 3, none⟩ = some (.slice af lf cf)) := ⟨c2, c3⟩
   have hl := World.block_lt_of_cell? _ _ c0'
   simp only at hl
   have hm0 : ((z + 1 : Nat) : Int) ≤ 1000000000 := by omega
   have hm1 : 0 < z + 1 := by omega
   have i1 : (0 : Int) ≤ (k : Int) := by omega
   have i2 : (k : Int) < (ss.length : Int) := by omega
   clear c0 c1 c2 c3 c4 c5 c4' c5' hve hvf hst hle hcs hKK hse hsf hz hne hnf hy1 hy2 hle' hlf' hcc
   go_wp2_with fail
   rw [show ((z : Int) + 1) = ((z + 1 : Nat) : Int) by omega]
   clear c0'
   go_region_held3 (fun W => W.cell? ⟨b, off + k * 6 + 1, none⟩ = some (.string (mtxt (z + 1)))) (go_simp)
    (first
    | (go_at_call 99; refine (mtext_any (z + 1) hm0 hm1 _).mono ?_; rintro e w2 ⟨rfl, hb2⟩; have hcc : ∀ b o, b < wr.heap.size → w2.cell? ⟨b, o, none⟩ = wr.cell? ⟨b, o, none⟩ := (bcell hb2).1))
   have hb2' : Below wr.heap.size wr w2 := ((Below.refl _ _).drew).trans hb2
   have HB2 : Hid (Below wr.heap.size wr w2) := hb2'
   clear hcc c1' hb2 hb2'
   go_upto_region 10 with fail
   go_cut [1] from 6 to 66 (fun e W => e = .int .i64 (y1 : Int) ∧ Below wr.heap.size wr W)
   case first => as_aux_lemma =>
    have d2 := ((bcell HB2.out).1 b (off + k * 6 + 2) hl).trans HC2.out.1
    go_wp2_with fail
    rw [show ((z : Int) + 1 + 1) = ((z + 2 : Nat) : Int) by omega]
    refine (HE.out w2 HB2.out).mono ?_
    rintro e w3 ⟨rfl, hb3⟩
    have hb3' : Below wr.heap.size wr w3 := HB2.out.trans (hb3.mono HB2.out.size)
    go_wp2_with fail
    go_meet
    case rel => exact ⟨rfl, hb3'⟩
   case rest =>
    obtain ⟨rfl, hb3⟩ := hcut
    have HB3 : Hid (Below wr.heap.size wr wc) := hb3
    clear hb3
    have d3 := ((bcell HB3.out).1 b (off + k * 6 + 3) hl).trans HC2.out.2
    have n1 : decide ((y1 : Int) < 0) = false := decide_eq_false (by omega)
    go_wp2_with fail
    refine (HF.out wc HB3.out).mono ?_
    rintro e w4 ⟨rfl, hb4⟩
    have hb4' : Below wr.heap.size wr w4 := HB3.out.trans (hb4.mono HB3.out.size)
    have d4 := ((bcell hb4').1 b (off + k * 6 + 4) hl).trans HC4.out.1
    have d5 := ((bcell hb4').1 b (off + k * 6 + 5) hl).trans HC4.out.2
    clear d3 hb4
    have hB2 : Below w.heap.size w w4 := hB.trans (hb4'.mono hB.size)
    have n2 : decide ((y2 : Int) < 0) = false := decide_eq_false (by omega)
    clear n1
    go_wp2_with fail
    go_roundw
    case rel =>
     refine ⟨k + 1, by omega, by go_num, ?_, hB2⟩
     rw [HZ.out, HYs.out]
     go_num
    case measure => simp [RowKit.intOf]; omega
  ·obtain rfl : k = ss.length := by omega
   go_wp2_with fail
   go_ret
   exact ⟨ret_int' (by rw [List.take_length]), hB⟩
end
section
open Go.RowKit
theorem FnM.funcs {B : Nat} {w : World} {v : Value} {Q : List FV} {K : List Nat} (h : FnM B w v Q K) : Funcs w v (Q.map (·.f)) := by
 rcases h.row with ⟨h0, -, a, c, rfl, hc⟩ | ⟨g, cap, rfl, -, h3, h4, -, -, h7⟩
 ·exact ⟨a, c, by rw [List.length_map, h0], by rw [List.length_map]; omega, hc, fun hp => by rw [List.length_map] at hp; omega⟩
 ·refine ⟨some ⟨g, 0, none⟩, cap, by rw [List.length_map], by rw [List.length_map]; exact h3, h4, fun hp => ⟨g, 0, rfl, fun j hj => ?_⟩⟩
  rw [List.length_map] at hj
  have key : ∀ i (hi : i < 3), w.cell? ⟨g, 0 + j * 3 + i, none⟩ = (cellsF Q[j])[i]? := fun i hi => by
   have e := flatF_get Q j i hj hi
   have hl : i < (cellsF Q[j]).length := hi
   rw [List.getElem?_eq_getElem hl] at e ⊢
   rw [Nat.zero_add]
   exact (h7 _ _ e).1
  have he := h.each Q[j] (List.getElem_mem hj)
  refine ⟨Q[j].vp, Q[j].vb, ?_, ?_, ?_⟩
  ·simp only [List.getElem_map]
   exact ⟨key 0 (by omega), key 1 (by omega), key 2 (by omega)⟩
  ·simp only [List.getElem_map]; exact he.ps.strs
  ·simp only [List.getElem_map]; rw [← he.map]; exact he.body.stmts
theorem mkQ_map (k : Nat) (Q : List FV) (h : ∀ q ∈ Q, q.R.map (·.s) = q.f.body) : (mkQ k Q).map (·.f) = mkF k (Q.map (·.f)) ∧ sumQ Q = sumBy cntF (Q.map (·.f)) := by
 induction Q generalizing k with
 | nil => exact ⟨rfl, rfl⟩
 | cons q r ih =>
  have hq := h q (by simp)
  have e : sumR q.R = sumBy cntS q.f.body := by rw [sumR, hq]
  have ec : cntF q.f = 1 + q.f.params.length + sumR q.R := by rw [e]; rfl
  obtain ⟨i1, i2⟩ := ih (k + (1 + q.f.params.length + sumR q.R)) (fun x hx => h x (by simp [hx]))
  refine ⟨?_, ?_⟩
  ·simp only [mkQ, List.map_cons, mkF, ec, i1]
   congr 1
   simp only [mkV, mkFu, mkR_map, hq]
  ·show sumV q + sumQ r = cntF q.f + sumBy cntF (r.map (·.f))
   rw [i2, ec]
   rfl
set_option maxRecDepth 100000 in
set_option maxHeartbeats 4000000 in
theorem heldFo_any (v : Value) (fs : List Fu) (q : Nat) (w : World) (hn : fs.length ≤ 1048576) (hsm : ∀ f ∈ fs, smallF f) (h0 : 0 < q) (hq : (q : Int) + (sumBy cntF fs : Nat) ≤ 1000000000) (h : Funcs w v (mkF q fs)) :
  Calls Tryz.prog 65 #[v, .int .i64 q] w fun e w' => e = .returned (.int .i64 ((q + sumBy cntF fs : Nat) : Int)) ∧ Below w.heap.size w w' := by
 obtain ⟨a, cap, rfl, -, -, hc⟩ := h
 rw [mkF_len] at *
 have H : Hid (0 < fs.length → ∃ b off, a = some ⟨b, off, none⟩ ∧ FuncsC w b off (mkF q fs)) := hc
 have HSM : Hid (∀ f ∈ fs, smallF f) := hsm
 have HK : Hid ((q : Int) + (sumBy cntF fs : Nat) ≤ 1000000000) := hq
 clear hc hsm hq
 go_enter Tryz.func65, Tryz.ntmps65
 go_wp2_with fail
 go_loopw [1, 5] (fun kk i wr => ∃ k : Nat, k ≤ fs.length ∧ i = .int .i64 k ∧ kk = .int .i64 ((q + sumBy cntF (fs.take k) : Nat) : Int) ∧ Below w.heap.size w wr) (fun _ i _ => fs.length - (RowKit.intOf i).toNat)
 case atStart => exact ⟨0, Nat.zero_le _, rfl, by simp [sumBy], Below.refl _ _⟩
 case round =>
  obtain ⟨k, hk, rfl, rfl, hB⟩ := hrel
  by_cases hlt : k < fs.length
  ·obtain ⟨b, off, rfl, hcc⟩ := H.out (by omega)
   obtain ⟨vp, vb, ⟨c0, c1, c2⟩, hvp, hvb⟩ := (hcc.below hB) k (by rw [mkF_len]; exact hlt)
   rw [mkF_get q fs k hlt] at c0 hvp hvb
   have hst := sumBy_step cntF fs k hlt
   have hle := sumBy_le cntF fs (k + 1)
   have hcs : cntF fs[k] = 1 + fs[k].params.length + sumBy cntS fs[k].body := rfl
   have hKK := HK.out
   obtain ⟨hsp, hsb, hss⟩ := HSM.out fs[k] (List.getElem_mem hlt)
   obtain ⟨z, hz⟩ : ∃ z : Nat, q + sumBy cntF (fs.take k) = z := ⟨_, rfl⟩
   obtain ⟨np, hnp⟩ : ∃ np, fs[k].params.length = np := ⟨_, rfl⟩
   obtain ⟨nb, hnb⟩ : ∃ nb, sumBy cntS fs[k].body = nb := ⟨_, rfl⟩
   have HZ : Hid (q + sumBy cntF (fs.take (k + 1)) = z + 1 + np + nb) := by show _ = _; omega
   rw [hz] at c0 hvp hvb ⊢
   have hvp' : Strs wr vp (mkP (z + 1) fs[k].params) := hvp
   have hvb' : Stmts wr vb (mkS (z + 1 + fs[k].params.length) fs[k].body) := hvb
   have c0' : wr.cell? ⟨b, off + k * 3, none⟩ = some (.string (mtxt z)) := c0
   have hzb : (z : Int) + 1 + np + nb ≤ 1000000000 := by omega
   have hz0 : 0 < z := by omega
   obtain ⟨y1, hy1⟩ : ∃ y1, z + 1 + 1 * np = y1 := ⟨_, rfl⟩
   obtain ⟨y2, hy2⟩ : ∃ y2, y1 + nb = y2 := ⟨_, rfl⟩
   have HE : Hid (∀ W, Below wr.heap.size wr W → Calls Tryz.prog 102 #[vp, .int .i64 ((z + 1 : Nat) : Int)] W fun e w' => e = .returned (.int .i64 ((y1 : Nat) : Int)) ∧ Below W.heap.size W w') := fun W hW => by
    have := heldPo_any vp fs[k].params (z + 1) W hsp (by omega) (by omega) (hvp'.below hW)
    rw [hnp, hy1] at this
    exact this
   have HF : Hid (∀ W, Below wr.heap.size wr W → Calls Tryz.prog 103 #[vb, .int .i64 ((y1 : Nat) : Int)] W fun e w' => e = .returned (.int .i64 ((y2 : Nat) : Int)) ∧ Below W.heap.size W w') := fun W hW => by
    rw [hnp, show z + 1 + np = y1 by omega] at hvb'
    have := heldSo_any vb fs[k].body y1 W hsb hss (by omega) (by omega) (hvb'.below hW)
    rw [hnb, hy2] at this
    exact this
   have HYs : Hid (z + 1 + np + nb = y2) := by show _ = _; omega
   have hyb : (y2 : Int) ≤ 1000000000 := by omega
   obtain ⟨ae, ce, rfl, -⟩ := hvp'
   obtain ⟨af, cf, rfl, -⟩ := hvb'
   obtain ⟨le, hle'⟩ : ∃ le, (mkP (z + 1) fs[k].params).length = le := ⟨_, rfl⟩
   obtain ⟨lf, hlf'⟩ : ∃ lf, (mkS (z + 1 + fs[k].params.length) fs[k].body).length = lf := ⟨_, rfl⟩
   rw [hle'] at c1 HE
   rw [hlf'] at c2 HF
   have HC2 : Hid (wr.cell? ⟨b, off + k * 3 + 1, none⟩ = some (.slice ae le ce) ∧ wr.cell? ⟨b, off + k * 3 + 2, none⟩ = some (.slice af lf cf)) := ⟨c1, c2⟩
   have hl := World.block_lt_of_cell? _ _ c0'
   simp only at hl
   have hm0 : (z : Int) ≤ 1000000000 := by omega
   have i1 : (0 : Int) ≤ (k : Int) := by omega
   have i2 : (k : Int) < (fs.length : Int) := by omega
   clear c0 c1 c2 hvp hvb hst hle hcs hKK hsp hsb hss hz hnp hnb hy1 hy2 hle' hlf' hcc
   go_wp2_with fail
   go_region_held3 (fun W => W.cell? ⟨b, off + k * 3, none⟩ = some (.string (mtxt z))) (go_simp)
    (first
    | (go_at_call 99; refine (mtext_any z hm0 hz0 _).mono ?_; rintro e w2 ⟨rfl, hb2⟩; have hcc : ∀ b o, b < wr.heap.size → w2.cell? ⟨b, o, none⟩ = wr.cell? ⟨b, o, none⟩ := (bcell hb2).1))
   have hb2' : Below wr.heap.size wr w2 := ((Below.refl _ _).drew).trans hb2
   have HB2 : Hid (Below wr.heap.size wr w2) := hb2'
   have d2 := (hcc b (off + k * 3 + 1) hl).trans HC2.out.1
   clear hcc c0' hb2 hb2'
   go_wp2_with fail
   rw [show ((z : Int) + 1) = ((z + 1 : Nat) : Int) by omega]
   refine (HE.out w2 HB2.out).mono ?_
   rintro e w3 ⟨rfl, hb3⟩
   have HB3 : Hid (Below wr.heap.size wr w3) := HB2.out.trans (hb3.mono HB2.out.size)
   have d3 := ((bcell HB3.out).1 b (off + k * 3 + 2) hl).trans HC2.out.2
   have n1 : decide ((y1 : Int) < 0) = false := decide_eq_false (by omega)
   clear d2 hb3
   go_wp2_with fail
   refine (HF.out w3 HB3.out).mono ?_
   rintro e w4 ⟨rfl, hb4⟩
   have hb4' : Below wr.heap.size wr w4 := HB3.out.trans (hb4.mono HB3.out.size)
   clear d3 hb4
   have hB2 : Below w.heap.size w w4 := hB.trans (hb4'.mono hB.size)
   have n2 : decide ((y2 : Int) < 0) = false := decide_eq_false (by omega)
   clear n1
   go_wp2_with fail
   go_roundw
   case rel =>
    refine ⟨k + 1, by omega, by go_num, ?_, hB2⟩
    rw [HZ.out, HYs.out]
   case measure => simp [RowKit.intOf]; omega
  ·obtain rfl : k = fs.length := by omega
   go_wp2_with fail
   go_ret
   exact ⟨ret_int' (by rw [List.take_length]), hB⟩
set_option maxRecDepth 100000 in
set_option maxHeartbeats 4000000 in
theorem heldTo_any (vg vf : Value) (gs : List Gl) (fs : List Fu) (q : Nat) (w : World) (hg : gs.length ≤ 1048576) (hn : fs.length ≤ 1048576) (hsm : ∀ f ∈ fs, smallF f) (h0 : 0 < q) (hq : (q : Int) + 2 * gs.length + (sumBy cntF fs : Nat) ≤ 1000000000) (h1 : Globs w vg (mkG q gs)) (h2 : Funcs w vf (mkF (q + 2 * gs.length) fs)) :
  Calls Tryz.prog 28 #[.agg #[vg, vf], .int .i64 q] w fun e w' => e = .returned (.int .i64 ((q + 2 * gs.length + sumBy cntF fs : Nat) : Int)) ∧ Below w.heap.size w w' := by
 have HG : Hid (∀ W, Below w.heap.size w W → Calls Tryz.prog 64 #[vg, .int .i64 (q : Int)] W fun e w' => e = .returned (.int .i64 ((q + 2 * gs.length : Nat) : Int)) ∧ Below W.heap.size W w') := fun W hW => heldGo_any vg gs q W hg h0 (by omega) (h1.below hW)
 obtain ⟨y1, hy1⟩ : ∃ y1, q + 2 * gs.length = y1 := ⟨_, rfl⟩
 obtain ⟨y2, hy2⟩ : ∃ y2, y1 + sumBy cntF fs = y2 := ⟨_, rfl⟩
 rw [hy1] at HG h2 ⊢
 rw [hy2]
 have HF : Hid (∀ W, Below w.heap.size w W → Calls Tryz.prog 65 #[vf, .int .i64 (y1 : Int)] W fun e w' => e = .returned (.int .i64 (y2 : Int)) ∧ Below W.heap.size W w') := fun W hW => by
  have := heldFo_any vf fs y1 W hn hsm (by omega) (by omega) (h2.below hW)
  rw [hy2] at this
  exact this
 obtain ⟨ag, cg, rfl, -⟩ := h1
 obtain ⟨af, cf, rfl, -⟩ := h2
 obtain ⟨lg, hlg⟩ : ∃ l, (mkG q gs).length = l := ⟨_, rfl⟩
 obtain ⟨lf, hlf⟩ : ∃ l, (mkF y1 fs).length = l := ⟨_, rfl⟩
 rw [hlg] at HG ⊢
 rw [hlf] at HF ⊢
 have n1 : decide ((y1 : Int) < 0) = false := decide_eq_false (by omega)
 have n2 : decide ((y2 : Int) < 0) = false := decide_eq_false (by omega)
 clear hy1 hy2 hlg hlf hq hsm
 go_enter Tryz.func28, Tryz.ntmps28
 go_wp2_with fail
 have hA : Below w.heap.size w (w.alloc (.cells #[.slice ag lg cg, .slice af lf cf] 26)) := (Below.refl _ _).alloc (Nat.le_refl _) _
 refine (HG.out _ hA).mono ?_
 rintro e w1 ⟨rfl, hb1⟩
 simp only [World.size_alloc] at hb1
 obtain ⟨x0, x1⟩ := box2 hb1
 have hB1 : Below w.heap.size w w1 := one_below hb1
 clear hA
 go_wp2_with fail
 refine (HF.out w1 hB1).mono ?_
 rintro e w2 ⟨rfl, hb2⟩
 have hB2 : Below w.heap.size w w2 := hB1.trans (hb2.mono hB1.size)
 clear x0 x1 hb1 hb2
 go_wp2_with fail
 go_ret
 exact ⟨rfl, hB2⟩
end
section
open Go.RowKit
theorem ROne.globs {B : Nat} {w : World} {v : Value} {gs : List Gl} {K : List Nat} (h : ROne B w v gs.length (flatG gs) K) : Globs w v gs := by
 rcases h with ⟨h0, -, a, c, rfl, hc⟩ | ⟨g, cap, rfl, -, h3, h4, -, -, h7⟩
 ·exact ⟨a, c, by rw [h0], by omega, hc, fun hp => absurd hp (by omega)⟩
 ·refine ⟨_, cap, rfl, h3, h4, fun _ => ⟨g, 0, rfl, fun j hj => ?_⟩⟩
  have hget : ∀ (l : List Gl) (m : Nat) (hm : m < l.length), (flatG l)[m * 2]? = some (.string l[m].name) ∧ (flatG l)[m * 2 + 1]? = some (.int .i64 l[m].size) := by
   intro l
   induction l with
   | nil => intro m hm; simp at hm
   | cons x r ih =>
    intro m hm
    cases m with
    | zero => exact ⟨rfl, rfl⟩
    | succ m =>
     obtain ⟨i1, i2⟩ := ih m (by simpa using hm)
     have e1 : (m + 1) * 2 = m * 2 + 1 + 1 := by omega
     have e2 : (m + 1) * 2 + 1 = m * 2 + 1 + 1 + 1 := by omega
     rw [e1, show m * 2 + 1 + 1 + 1 = (m * 2 + 1) + 1 + 1 from rfl]
     exact ⟨i1, i2⟩
  obtain ⟨e0, e1⟩ := hget gs j hj
  rw [Nat.zero_add]
  exact ⟨(h7 _ _ e0).1, (h7 _ _ e1).1⟩
theorem Tk.cells {K : List Nat} {w w' : World} (h : Tk K w w') {g : Nat} (hg : g ∉ K) (hl : g < w.heap.size) (o : Nat) : w'.cell? ⟨g, o, none⟩ = w.cell? ⟨g, o, none⟩ := World.cell?_of_block (a := ⟨g, o, none⟩) (h.other g hl hg)
set_option maxRecDepth 100000 in
set_option maxHeartbeats 4000000 in
theorem markTo_any (B : Nat) (vg vf : Value) (gs : List Gl) (Q : List FV) (Kg Kf : List Nat) (k : Nat) (w : World) (hg : gs.length ≤ 1048576) (hn : Q.length ≤ 1048576) (hsm : ∀ q ∈ Q, smallV q) (h0 : 0 < k) (hk : (k : Int) + 2 * gs.length + (sumQ Q : Nat) ≤ 1000000000) (h1 : ROne B w vg gs.length (flatG gs) Kg) (h2 : FnM B w vf Q Kf) (hsep : ∀ g ∈ Kg, g ∉ Kf ++ blkF Q) (hB : B ≤ w.heap.size) :
  Calls Tryz.prog 27 #[.agg #[vg, vf], .int .i64 k] w fun e w' => e = .returned (.int .i64 ((k + 2 * gs.length + sumQ Q : Nat) : Int)) ∧ Globs w' vg (mkG k gs) ∧ Funcs w' vf (mkF (k + 2 * gs.length) (Q.map (fun q : FV => q.f))) ∧ Below B w w' ∧ Tk (Kg ++ (Kf ++ blkF Q)) w w' := by
 obtain ⟨ag, cg, rfl, -⟩ := h1.slice
 obtain ⟨af, cf, rfl, -⟩ := h2.row.slice
 have hA : ∀ o, Below w.heap.size w (w.alloc o) := fun o => (Below.refl _ _).alloc (Nat.le_refl _) o
 obtain ⟨W0, hW0⟩ : ∃ W0, W0 = w.alloc (.cells #[.slice ag gs.length cg, .slice af Q.length cf] 26) := ⟨_, rfl⟩
 have hb0 : Below w.heap.size w W0 := by rw [hW0]; exact hA _
 obtain ⟨M, hM⟩ : ∃ M, M = w.heap.size := ⟨_, rfl⟩
 have hs0 : W0.heap.size = M + 1 := by rw [hW0, hM]; simp
 have hX0 : FrC W0 M [.slice ag gs.length cg, .slice af Q.length cf] := by rw [hW0, hM]; exact box_fr2 _ _ _ _
 have r1 : ROne B W0 (.slice ag gs.length cg) gs.length (flatG gs) Kg := h1.keep hb0.size (fun g hg => hb0.block g (h1.rng g hg).2)
 have r2 : FnM B W0 (.slice af Q.length cf) Q Kf := h2.below hb0
 have hMg : M ∉ Kg := fun h => by have := (h1.rng M h).2; omega
 have hMf : M ∉ Kf ++ blkF Q := fun h => by have := (h2.rng M h).2; omega
 obtain ⟨y1, hy1⟩ : ∃ y1, k + 2 * gs.length = y1 := ⟨_, rfl⟩
 obtain ⟨y2, hy2⟩ : ∃ y2, y1 + sumQ Q = y2 := ⟨_, rfl⟩
 rw [hy1]
 rw [hy2]
 have HG : Hid (Calls Tryz.prog 62 #[.slice ag gs.length cg, .int .i64 (k : Int)] W0 fun e w' => e = .returned (.int .i64 (y1 : Int)) ∧ ROne B w' (.slice ag gs.length cg) gs.length (flatG (mkG k gs)) Kg ∧ Tk Kg W0 w') := by
  have := markGo_any B _ gs Kg k W0 hg h0 (by omega) r1
  rw [hy1] at this
  exact this
 have HF : Hid (∀ W, Tk Kg W0 W → FnM B W (.slice af Q.length cf) Q Kf ∧ Calls Tryz.prog 63 #[.slice af Q.length cf, .int .i64 (y1 : Int)] W fun e w' => e = .returned (.int .i64 (y2 : Int)) ∧ FnM B w' (.slice af Q.length cf) (mkQ y1 Q) Kf ∧ Tk (Kf ++ blkF Q) W w') := fun W hW => by
  have r3 : FnM B W (.slice af Q.length cf) Q Kf := r2.keep hW.size (fun g hg => hW.other g (r2.rng g hg).2 (fun h => hsep g h hg))
  have := markFo_any B _ Q Kf y1 W hn hsm (by omega) (by omega) r3
  rw [hy2] at this
  exact ⟨r3, this⟩
 have HX : Hid (∀ W, Tk Kg W0 W → W.cell? ⟨M, 1, none⟩ = some (.slice af Q.length cf)) := fun W hW => (hW.cells hMg (by omega) 1).trans hX0.two.2.1
 have HE : Hid (∀ W1 W2, Tk Kg W0 W1 → Tk (Kf ++ blkF Q) W1 W2 → ROne B W1 (.slice ag gs.length cg) gs.length (flatG (mkG k gs)) Kg → FnM B W2 (.slice af Q.length cf) (mkQ y1 Q) Kf → Globs W2 (.slice ag gs.length cg) (mkG k gs) ∧ Funcs W2 (.slice af Q.length cf) (mkF y1 (Q.map (fun q : FV => q.f))) ∧ Below B w W2 ∧ Tk (Kg ++ (Kf ++ blkF Q)) w W2) := fun W1 W2 t1 t2 g1 g2 => by
  refine ⟨?_, ?_, ?_, ((Tk.of_below hb0).trans (t1.mono (fun g hg => List.mem_append.2 (.inl hg)))).trans (t2.mono (fun g hg => List.mem_append.2 (.inr hg)))⟩
  ·have := g1.keep t2.size (fun g hg => t2.other g (g1.rng g hg).2 (hsep g hg))
   have e : (mkG k gs).length = gs.length := mkG_len k gs
   have := ROne.globs (gs := mkG k gs) (by rw [e]; exact this)
   exact this
  ·have := g2.funcs
   rw [(mkQ_map y1 Q (fun q hq => (h2.each q hq).map)).1] at this
   exact this
  ·have b1 : Below B W0 W1 := t1.below (fun g hg => (h1.rng g hg).1) (by omega)
   have b2 : Below B W1 W2 := t2.below (fun g hg => (h2.rng g hg).1) (by have := t1.size; omega)
   exact ((hb0.mono hB).trans b1).trans b2
 have HW0 : Hid (W0 = _) := hW0
 have HM : Hid (M = w.heap.size) := hM
 clear h1 h2 hsep r1 r2 hMg hMf hX0 hA hb0 hs0 hk hy1 hy2 hW0 hM hsm
 go_enter Tryz.func27, Tryz.ntmps27
 go_wp2_with fail
 rw [← HW0.out, ← HM.out]
 refine HG.out.mono ?_
 rintro e w1 ⟨rfl, g1, t1⟩
 have x1 := HX.out w1 t1
 have HT1 : Hid (Tk Kg W0 w1) := t1
 have HG1 : Hid (ROne B w1 (.slice ag gs.length cg) gs.length (flatG (mkG k gs)) Kg) := g1
 clear t1 g1
 go_wp2_with fail
 refine (HF.out w1 HT1.out).2.mono ?_
 rintro e w2 ⟨rfl, g2, t2⟩
 have HFin : Hid _ := HE.out w1 w2 HT1.out t2 HG1.out g2
 clear t2 g2 x1
 go_wp2_with fail
 go_ret
 exact ⟨rfl, HFin.out⟩
end
section
open Go.RowKit
theorem mark_own (B : Nat) (vg vf : Value) (r : Tr) (Q : List FV) (w : World) (hB : B ≤ w.heap.size) (h : TreeOwn B w vg vf r Q) (hg : r.globals.length ≤ 50) (hf : r.funcs.length ≤ 50) (hok : ∀ f ∈ r.funcs, OkF f) :
  ∃ N : Nat, (N : Int) ≤ 1000000000 ∧ (Calls Tryz.prog 27 #[.agg #[vg, vf], .int .i64 1] w fun e w' => e = .returned (.int .i64 (N : Int)) ∧ Below B w w' ∧ (∀ x, x < w.heap.size → vg.ownBlock ≠ some x → vf.ownBlock ≠ some x → x ∉ blkF Q → w'.heap[x]? = w.heap[x]?) ∧ ∀ W, Below w'.heap.size w' W → Calls Tryz.prog 28 #[.agg #[vg, vf], .int .i64 1] W fun e w2 => e = .returned (.int .i64 (N : Int)) ∧ Below W.heap.size W w2) := by
 obtain ⟨Kg, g1, g2⟩ := ROne.of_own h.gs
 obtain ⟨Kf, f1, f2⟩ := h.fs.m
 have hQl : Q.length ≤ 50 := by have := congrArg List.length h.map; simp only [List.length_map] at this; omega
 have hin : ∀ q ∈ Q, OkF q.f := fun q hq => hok _ (by rw [← h.map]; exact List.mem_map.2 ⟨q, hq, rfl⟩)
 have hsv : ∀ q ∈ Q, smallV q := fun q hq => by
  have o := hin q hq
  have hm := (h.fs.each q hq).map
  have hl : q.R.length = q.f.body.length := by rw [← hm]; simp
  refine ⟨by have := o.ps; omega, by have := o.body; omega, fun x hx => ?_⟩
  have ho := o.ok x.s (by rw [← hm]; exact List.mem_map.2 ⟨x, hx, rfl⟩)
  exact ⟨by have := ho.e; omega, by have := ho.f; omega⟩
 have hbig : ∀ q ∈ Q, sumV q ≤ 8000000 := fun q hq => by
  have o := hin q hq
  have hm := (h.fs.each q hq).map
  have hb : ∀ (l : List St), (∀ s ∈ l, OkS s) → sumBy cntS l ≤ 12004 * l.length := by
   intro l
   induction l with
   | nil => intro _; simp [sumBy]
   | cons a l ih =>
    intro hl
    have h1 := ih (fun s hs => hl s (by simp [hs]))
    have h2 := hl a (by simp)
    have h3 : cntS a = 4 + 3 * a.e.length + 3 * a.f.length := rfl
    have := h2.e
    have := h2.f
    simp only [sumBy, List.length_cons]
    omega
  have h1 := hb q.f.body o.ok
  have h2 : sumR q.R = sumBy cntS q.f.body := by rw [sumR, hm]
  have := o.body
  have := o.ps
  show 1 + q.f.params.length + sumR q.R ≤ _
  omega
 have hsum : ∀ (l : List FV), (∀ q ∈ l, sumV q ≤ 8000000) → sumQ l ≤ 8000000 * l.length := by
  intro l
  induction l with
  | nil => intro _; simp [sumQ, sumBy]
  | cons a l ih =>
   intro hl
   have h1 := ih (fun s hs => hl s (by simp [hs]))
   have h2 := hl a (by simp)
   have e : sumQ (a :: l) = sumV a + sumQ l := by simp [sumQ, sumBy]
   rw [e, List.length_cons]
   omega
 have hs := hsum Q hbig
 obtain ⟨e1, e2⟩ := mkQ_map (1 + 2 * r.globals.length) Q (fun q hq => (h.fs.each q hq).map)
 rw [h.map] at e1 e2
 refine ⟨1 + 2 * r.globals.length + sumQ Q, by omega, ?_⟩
 refine (markTo_any B vg vf r.globals Q Kg Kf 1 w (by omega) (by omega) hsv (by omega) (by omega) g1 f1 (fun g hg hm => ?_) hB).mono ?_
 ·obtain ⟨s1, s2⟩ := h.sep g ((g2 g).2 hg)
  rcases List.mem_append.1 hm with hm | hm
  ·exact s2 ((f2 g).2 hm)
  ·exact s1 hm
 ·rintro e w' ⟨rfl, m1, m2, m3, m4⟩
  refine ⟨rfl, m3, fun x hx n1 n2 n3 => m4.other x hx (fun hm => ?_), fun W hW => ?_⟩
  ·rcases List.mem_append.1 hm with hm | hm
   ·exact n1 ((g2 x).2 hm)
   ·rcases List.mem_append.1 hm with hm | hm
    ·exact n2 ((f2 x).2 hm)
    ·exact n3 hm
  rw [h.map] at m2
  have := heldTo_any vg vf r.globals r.funcs 1 W (by omega) (by omega) (fun f hf => (hok f hf).small) (by omega) (by omega) (m1.below hW) (m2.below hW)
  rw [← e2] at this
  exact this
end
end Go.Proofs.YtlamjfhhefcohaaGreatDoor
