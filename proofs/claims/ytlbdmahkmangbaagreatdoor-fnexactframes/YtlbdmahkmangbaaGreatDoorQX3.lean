import Derived.Test.YtlbdmahkmangbaaGreatDoorQX0
import Derived.Test.YtlbdmahkmangbaaGreatDoorQW0
namespace Go.Proofs.YtlbdmahkmangbaaGreatDoor
open Go.RowKit
set_option linter.unusedVariables false
set_option linter.unusedSimpArgs false

/-- How many marks a statement, a function, a tree takes. -/
def cntS (s : St) : Nat := 4 + 3 * s.e.length + 3 * s.f.length
def cntF (f : Fu) : Nat := 1 + f.params.length + sumBy cntS f.body
def cntT (t : Tr) : Nat := 2 * t.globals.length + sumBy cntF t.funcs
theorem sumBy_le_mul {α : Type} (f g : α → Nat) (c : Nat) (l : List α) (h : ∀ x ∈ l, f x ≤ c * g x + c) : sumBy f l ≤ c * (l.length + sumBy g l) := by
  induction l with
  | nil => simp [sumBy]
  | cons x r ih =>
    have h1 := h x (by simp)
    have h2 := ih (fun y hy => h y (by simp [hy]))
    simp only [sumBy, List.length_cons]
    have e : c * (r.length + 1 + (g x + sumBy g r)) = c * (r.length + sumBy g r) + (c * g x + c) := by
      simp only [Nat.mul_add, Nat.mul_one]; omega
    rw [e]; omega
theorem cntS_le (s : St) : cntS s ≤ 4 * szSt s + 4 := by unfold cntS szSt szNs; omega
theorem cntF_le (f : Fu) : cntF f ≤ 4 * szFu f + 4 := by
  have := sumBy_le_mul cntS szSt 4 f.body (fun s _ => cntS_le s)
  unfold cntF szFu szPs szSs
  omega
theorem cntT_le (t : Tr) : cntT t ≤ 4 * szT t := by
  have := sumBy_le_mul cntF szFu 4 t.funcs (fun f _ => cntF_le f)
  unfold cntT szT szGs szFs
  omega

set_option maxHeartbeats 2000000 in
theorem markStmts_any (B T : Nat) (v : Value) (ss : List St) (k : Nat) (w : World) (hn : ss.length ≤ 1048576) (hsm : ∀ s ∈ ss, smallS s) (h0 : 0 < k) (hk : (k : Int) + (sumBy cntS ss : Nat) ≤ 1000000000) (h : StmtsM B T w v ss) :
    Calls Tryz.prog 44 #[v, .int .i64 k] w fun e w' => e = .returned (.int .i64 ((k + sumBy cntS ss : Nat) : Int)) ∧ Sh B T w w' := by
  have HP : Hid (StmtsM B T w v ss) := h
  have HSM : Hid (∀ s ∈ ss, smallS s) := hsm
  have HK : Hid ((k : Int) + (sumBy cntS ss : Nat) ≤ 1000000000) := hk
  obtain ⟨g, cur, rfl, -, -, -, -, -⟩ := h
  clear hsm hk
  go_enter Tryz.func44, Tryz.ntmps44
  go_wp2_with fail
  go_loopw [1, 5] (fun q i wr => ∃ j : Nat, j ≤ ss.length ∧ i = .int .i64 j ∧ q = .int .i64 ((k + sumBy cntS (ss.take j) : Nat) : Int) ∧ Sh B T w wr) (fun _ i _ => ss.length - (intOf i).toNat)
  case atStart => exact ⟨0, Nat.zero_le _, rfl, by simp [sumBy], Sh.refl _ _ _⟩
  case round =>
    obtain ⟨j, hj, rfl, rfl, hS⟩ := hrel
    by_cases hlt : j < ss.length
    · have HP0 : Hid (StmtsM B T wr (.slice (some ⟨g, 0, none⟩) ss.length ss.length) ss) := HP.out.sh hS
      have HST : Hid _ := sumBy_step cntS ss j hlt
      have hle := sumBy_le cntS ss (j + 1)
      have hsm := HSM.out ss[j] (List.getElem_mem hlt)
      have hcs : cntS ss[j] = 4 + 3 * ss[j].e.length + 3 * ss[j].f.length := rfl
      have hqb : ((k + sumBy cntS (ss.take j) : Nat) : Int) + 4 + 3 * ss[j].e.length + 3 * ss[j].f.length ≤ 1000000000 := by
        have h1 := HST.out
        have h2 := HK.out
        omega
      have hq0 : 0 < k + sumBy cntS (ss.take j) := by omega
      have HC : Hid (cntS ss[j] = 4 + 3 * ss[j].e.length + 3 * ss[j].f.length) := hcs
      have hse := hsm.1
      have hsf := hsm.2
      clear hle hcs hsm
      obtain ⟨ve0, vf0, -, -, -, -, P0⟩ := HP0.out.at j hlt
      obtain ⟨⟨y0, o0⟩, f0, s0⟩ := P0 0 (by simp)
      have HP1 : Hid (StmtsM B T (wr.setCell ⟨g, j * 6, none⟩ (.int .i64 ((k + sumBy cntS (ss.take j) : Nat) : Int))) (.slice (some ⟨g, 0, none⟩) ss.length ss.length) ss) := HP0.out.sh (s0 _ (plain_int _ _))
      have HS1 : Hid (Sh B T w (wr.setCell ⟨g, j * 6, none⟩ (.int .i64 ((k + sumBy cntS (ss.take j) : Nat) : Int)))) := hS.trans (s0 _ (plain_int _ _))
      generalize hq : k + sumBy cntS (ss.take j) = q at hqb hq0 HP1 HS1 ⊢
      have HQ : Hid (k + sumBy cntS (ss.take j) = q) := hq
      generalize hne : ss[j].e.length = ne at hse hqb HC
      generalize hnf : ss[j].f.length = nf at hsf hqb HC
      have HNE : Hid (ss[j].e.length = ne) := hne
      have HNF : Hid (ss[j].f.length = nf) := hnf
      clear hq hne hnf P0 s0 HP0
      rw [Nat.add_zero] at o0 f0
      go_wp2_with fail
      rw [show ((q : Int) + 1) = ((q + 1 : Nat) : Int) by omega]
      refine (mtext_any (q + 1) (by omega) (by omega) _).mono ?_
      rintro e w1 ⟨rfl, hb1⟩
      have HP2 : Hid (StmtsM B T w1 (.slice (some ⟨g, 0, none⟩) ss.length ss.length) ss) := HP1.out.sh (Sh.of_below hb1)
      have HS2 : Hid (Sh B T w w1) := HS1.out.trans (Sh.of_below hb1)
      obtain ⟨ve, vf, c2, c3, pe, pf, P1⟩ := HP2.out.at j hlt
      obtain ⟨⟨y1, o1⟩, f1, s1⟩ := P1 1 (by simp)
      have HP3 : Hid (StmtsM B T (w1.setCell ⟨g, j * 6 + 1, none⟩ (.string (mtxt (q + 1)))) (.slice (some ⟨g, 0, none⟩) ss.length ss.length) ss) := HP2.out.sh (s1 _ (plain_str _))
      have HS3 : Hid (Sh B T w (w1.setCell ⟨g, j * 6 + 1, none⟩ (.string (mtxt (q + 1))))) := HS2.out.trans (s1 _ (plain_str _))
      have HPE : Hid (PlainM B T 136 3 (w1.setCell ⟨g, j * 6 + 1, none⟩ (.string (mtxt (q + 1)))) ve ne) := by rw [← HNE.out]; exact pe.sh (s1 _ (plain_str _))
      obtain ⟨ae, lne, cne, rfl⟩ := pe.isSlice
      obtain ⟨af, lnf, cnf, rfl⟩ := pf.isSlice
      clear P1 s1 pe pf o0 f0 HP1 HS1 hb1
      go_wp2_with fail
      rw [show ((q : Int) + 1 + 1) = ((q + 2 : Nat) : Int) by omega]
      refine (markNodes_any B T _ ne (q + 2) _ hse (by omega) (by omega) HPE.out).mono ?_
      rintro e w2 ⟨rfl, sh2⟩
      generalize hq2 : q + 2 + 3 * ne = q2
      have hq2b : (q2 : Int) + 2 + 3 * nf ≤ 1000000000 := by omega
      have hq20 : 0 < q2 := by omega
      have HQ2 : Hid (q + 2 + 3 * ne = q2) := hq2
      clear hq2
      have HP4 : Hid (StmtsM B T w2 (.slice (some ⟨g, 0, none⟩) ss.length ss.length) ss) := HP3.out.sh sh2
      have HS4 : Hid (Sh B T w w2) := HS3.out.trans sh2
      obtain ⟨ve', vf', -, d3, -, pf', -⟩ := HP4.out.at j hlt
      have HPF : Hid (PlainM B T 136 3 w2 vf' nf) := by rw [← HNF.out]; exact pf'
      obtain ⟨af', lnf', cnf', rfl⟩ := pf'.isSlice
      clear c2 c3 o1 f1 HP3 HS3 sh2 pf'
      go_wp2_with fail
      refine (markNodes_any B T _ nf q2 _ hsf (by omega) (by omega) HPF.out).mono ?_
      rintro e w3 ⟨rfl, sh3⟩
      have HP5 : Hid (StmtsM B T w3 (.slice (some ⟨g, 0, none⟩) ss.length ss.length) ss) := HP4.out.sh sh3
      have HS5 : Hid (Sh B T w w3) := HS4.out.trans sh3
      obtain ⟨_, _, -, -, -, -, P4⟩ := HP5.out.at j hlt
      obtain ⟨⟨y4, o4⟩, f4, s4⟩ := P4 4 (by simp)
      generalize hr : q2 + 3 * nf = r
      have hrb : (r : Int) + 2 ≤ 1000000000 := by omega
      have HRR : Hid (q2 + 3 * nf = r) := hr
      clear hr
      have HP6 : Hid (StmtsM B T (w3.setCell ⟨g, j * 6 + 4, none⟩ (.int .i64 (r : Int))) (.slice (some ⟨g, 0, none⟩) ss.length ss.length) ss) := HP5.out.sh (s4 _ (plain_int _ _))
      have HS6 : Hid (Sh B T w (w3.setCell ⟨g, j * 6 + 4, none⟩ (.int .i64 (r : Int)))) := HS5.out.trans (s4 _ (plain_int _ _))
      obtain ⟨_, _, -, -, -, -, P5⟩ := HP6.out.at j hlt
      obtain ⟨⟨y5, o5⟩, f5, s5⟩ := P5 5 (by simp)
      have HS7 : Hid (Sh B T w ((w3.setCell ⟨g, j * 6 + 4, none⟩ (.int .i64 (r : Int))).setCell ⟨g, j * 6 + 5, none⟩ (.int .i64 ((r : Int) + 1)))) := HS6.out.trans (s5 _ (plain_int _ _))
      clear P4 P5 s4 s5 d3 sh3
      go_wp2_with fail
      go_roundw
      case rel =>
        refine ⟨j + 1, by omega, by go_num, ?_, HS7.out⟩
        have h1 := HST.out
        have h2 := HC.out
        have h3 := HQ.out
        have h4 := HRR.out
        have h5 := HQ2.out
        rw [show k + sumBy cntS (ss.take (j + 1)) = r + 2 by omega]
        go_num
      case measure => simp [intOf]; omega
    · have hjn : ss.take j = ss := List.take_of_length_le (by omega)
      go_wp2_with fail
      go_ret
      exact ⟨ret_int' (by rw [hjn]), hS⟩

end Go.Proofs.YtlbdmahkmangbaaGreatDoor

namespace Go.Proofs.YtlbdmahkmangbaaGreatDoor
open Go.RowKit
set_option linter.unusedVariables false
set_option linter.unusedSimpArgs false

set_option maxHeartbeats 2000000 in
theorem markFuncs_any (B T : Nat) (v : Value) (fs : List Fu) (k : Nat) (w : World) (hn : fs.length ≤ 1048576) (hsm : ∀ f ∈ fs, smallF f) (h0 : 0 < k) (hk : (k : Int) + (sumBy cntF fs : Nat) ≤ 1000000000) (h : FuncsM B T w v fs) :
    Calls Tryz.prog 24 #[v, .int .i64 k] w fun e w' => e = .returned (.int .i64 ((k + sumBy cntF fs : Nat) : Int)) ∧ Sh B T w w' := by
  have HP : Hid (FuncsM B T w v fs) := h
  have HSM : Hid (∀ f ∈ fs, smallF f) := hsm
  have HK : Hid ((k : Int) + (sumBy cntF fs : Nat) ≤ 1000000000) := hk
  obtain ⟨g, cur, rfl, -, -, -, -, -⟩ := h
  clear hsm hk
  go_enter Tryz.func24, Tryz.ntmps24
  go_wp2_with fail
  go_loopw [1, 5] (fun q i wr => ∃ j : Nat, j ≤ fs.length ∧ i = .int .i64 j ∧ q = .int .i64 ((k + sumBy cntF (fs.take j) : Nat) : Int) ∧ Sh B T w wr) (fun _ i _ => fs.length - (intOf i).toNat)
  case atStart => exact ⟨0, Nat.zero_le _, rfl, by simp [sumBy], Sh.refl _ _ _⟩
  case round =>
    obtain ⟨j, hj, rfl, rfl, hS⟩ := hrel
    by_cases hlt : j < fs.length
    · have HP0 : Hid (FuncsM B T wr (.slice (some ⟨g, 0, none⟩) fs.length fs.length) fs) := HP.out.sh hS
      have HST : Hid _ := sumBy_step cntF fs j hlt
      have hle := sumBy_le cntF fs (j + 1)
      have hsm := HSM.out fs[j] (List.getElem_mem hlt)
      have hcs : cntF fs[j] = 1 + fs[j].params.length + sumBy cntS fs[j].body := rfl
      have hqb : ((k + sumBy cntF (fs.take j) : Nat) : Int) + 1 + fs[j].params.length + (sumBy cntS fs[j].body : Nat) ≤ 1000000000 := by
        have h1 := HST.out
        have h2 := HK.out
        omega
      have hq0 : 0 < k + sumBy cntF (fs.take j) := by omega
      have HC : Hid (cntF fs[j] = 1 + fs[j].params.length + sumBy cntS fs[j].body) := hcs
      have hse := hsm.1
      have hsf := hsm.2.1
      have HSF : Hid (∀ s ∈ fs[j].body, smallS s) := hsm.2.2
      clear hle hcs hsm
      generalize hq : k + sumBy cntF (fs.take j) = q at hqb hq0 ⊢
      have HQ : Hid (k + sumBy cntF (fs.take j) = q) := hq
      generalize hne : fs[j].params.length = ne at hse hqb HC
      have HNE : Hid (fs[j].params.length = ne) := hne
      have HSH : Hid (Sh B T w wr) := hS
      have HBD : Hid (∀ (W : World) (v : Value), StmtsM B T W v fs[j].body → StmtsM B T W v fs[j].body) := fun _ _ h => h
      clear hq hne
      go_wp2_with fail
      refine (mtext_any q (by omega) (by omega) _).mono ?_
      rintro e w1 ⟨rfl, hb1⟩
      have HP2 : Hid (FuncsM B T w1 (.slice (some ⟨g, 0, none⟩) fs.length fs.length) fs) := HP0.out.sh (Sh.of_below hb1)
      have HS2 : Hid (Sh B T w w1) := HSH.out.trans (Sh.of_below hb1)
      obtain ⟨vp, vb, c1, c2, pp, pb, ⟨y0, o0⟩, f0, s0⟩ := HP2.out.at j hlt
      have HP3 : Hid (FuncsM B T (w1.setCell ⟨g, j * 3, none⟩ (.string (mtxt q))) (.slice (some ⟨g, 0, none⟩) fs.length fs.length) fs) := HP2.out.sh (s0 _ (plain_str _))
      have HS3 : Hid (Sh B T w (w1.setCell ⟨g, j * 3, none⟩ (.string (mtxt q)))) := HS2.out.trans (s0 _ (plain_str _))
      have HPE : Hid (PlainM B T 9 1 (w1.setCell ⟨g, j * 3, none⟩ (.string (mtxt q))) vp ne) := by rw [← HNE.out]; exact pp.sh (s0 _ (plain_str _))
      obtain ⟨ae, lne, cne, rfl⟩ := pp.isSlice
      obtain ⟨af, lnf, cnf, rfl⟩ := pb.isSlice
      clear s0 pp pb hb1
      go_wp2_with fail
      rw [show ((q : Int) + 1) = ((q + 1 : Nat) : Int) by omega]
      refine (markStrs_any B T _ ne (q + 1) _ hse (by omega) (by omega) HPE.out).mono ?_
      rintro e w2 ⟨rfl, sh2⟩
      generalize hq2 : q + 1 + 1 * ne = q2
      have hq2b : (q2 : Int) + (sumBy cntS fs[j].body : Nat) ≤ 1000000000 := by omega
      have hq20 : 0 < q2 := by omega
      have HQ2 : Hid (q + 1 + 1 * ne = q2) := hq2
      clear hq2
      have HP4 : Hid (FuncsM B T w2 (.slice (some ⟨g, 0, none⟩) fs.length fs.length) fs) := HP3.out.sh sh2
      have HS4 : Hid (Sh B T w w2) := HS3.out.trans sh2
      obtain ⟨vp', vb', -, d2, -, pb', -⟩ := HP4.out.at j hlt
      have HPB : Hid (StmtsM B T w2 vb' fs[j].body) := pb'
      obtain ⟨af', lnf', cnf', rfl⟩ := pb'.isSlice
      clear c1 c2 o0 f0 HP3 HS3 sh2 pb'
      go_wp2_with fail
      refine (markStmts_any B T _ fs[j].body q2 _ hsf HSF.out hq20 hq2b HPB.out).mono ?_
      rintro e w3 ⟨rfl, sh3⟩
      have HS5 : Hid (Sh B T w w3) := HS4.out.trans sh3
      generalize hr : q2 + sumBy cntS fs[j].body = r
      have HRR : Hid (q2 + sumBy cntS fs[j].body = r) := hr
      clear hr d2 sh3 hq2b hqb
      go_wp2_with fail
      go_roundw
      case rel =>
        refine ⟨j + 1, by omega, by go_num, ?_, HS5.out⟩
        have h1 := HST.out
        have h2 := HC.out
        have h3 := HQ.out
        have h4 := HRR.out
        have h5 := HQ2.out
        rw [show k + sumBy cntF (fs.take (j + 1)) = r by omega]
      case measure => simp [intOf]; omega
    · have hjn : fs.take j = fs := List.take_of_length_le (by omega)
      go_wp2_with fail
      go_ret
      exact ⟨ret_int' (by rw [hjn]), hS⟩

theorem box2_sh {B T : Nat} {w w' : World} {t : TypeId} {x y : Value} (h : Sh B T (w.alloc (.cells #[x, y] t)) w') (hT : T ≤ w.heap.size) : w'.cell? ⟨w.heap.size, 0, none⟩ = some x ∧ w'.cell? ⟨w.heap.size, 1, none⟩ = some y := by
  have hk := h.keep w.heap.size hT (by simp)
  exact ⟨by rw [World.cell?_of_block (w := w.alloc (.cells #[x, y] t)) hk]; simp, by rw [World.cell?_of_block (w := w.alloc (.cells #[x, y] t)) hk]; simp⟩

set_option maxHeartbeats 1000000 in
theorem markTree_any (B T : Nat) (vg vf : Value) (t : Tr) (k : Nat) (w : World) (hT : T ≤ w.heap.size) (hs : smallT t) (h0 : 0 < k) (hk : (k : Int) + (cntT t : Nat) ≤ 1000000000) (hg : PlainM B T 73 2 w vg t.globals.length) (hf : FuncsM B T w vf t.funcs) :
    Calls Tryz.prog 10 #[.agg #[vg, vf], .int .i64 k] w fun e w' => e = .returned (.int .i64 ((k + cntT t : Nat) : Int)) ∧ Sh B T w w' := by
  obtain ⟨gs, fs⟩ := t
  have hgl : gs.length ≤ 1048576 := hs.1
  have hfl : fs.length ≤ 1048576 := hs.2.1
  have HSF : Hid (∀ f ∈ fs, smallF f) := hs.2.2
  have HC : Hid (cntT ⟨gs, fs⟩ = 2 * gs.length + sumBy cntF fs) := rfl
  have hkb : (k : Int) + 2 * gs.length + (sumBy cntF fs : Nat) ≤ 1000000000 := by have := HC.out; omega
  simp only at hg hf
  have HG : Hid (PlainM B T 73 2 w vg gs.length) := hg
  have HF : Hid (FuncsM B T w vf fs) := hf
  obtain ⟨ag, lg, cg, rfl⟩ := hg.isSlice
  obtain ⟨gf, cur, rfl, -, -, -, -, -⟩ := hf
  clear hg hs hk
  have hA : Below w.heap.size w (w.alloc (.cells #[.slice ag lg cg, .slice (some ⟨gf, 0, none⟩) fs.length fs.length] 32)) := (Below.refl _ _).alloc (Nat.le_refl _) _
  have HT0 : Hid (PlainM B T 73 2 (w.alloc (.cells #[.slice ag lg cg, .slice (some ⟨gf, 0, none⟩) fs.length fs.length] 32)) (.slice ag lg cg) gs.length) := PlainM.sh HG.out (Sh.of_below hA)
  go_enter Tryz.func10, Tryz.ntmps10
  go_wp2_with fail
  refine (markGlobs_any B T _ gs.length k _ hgl h0 (by omega) HT0.out).mono ?_
  rintro e w1 ⟨rfl, sh1⟩
  obtain ⟨x0, x1⟩ := box2_sh sh1 hT
  have HSH : Hid (Sh B T w w1) := (Sh.of_below hA).trans sh1
  have HF1 : Hid (FuncsM B T w1 (.slice (some ⟨gf, 0, none⟩) fs.length fs.length) fs) := HF.out.sh HSH.out
  generalize hq : k + 2 * gs.length = q
  have hqb : (q : Int) + (sumBy cntF fs : Nat) ≤ 1000000000 := by omega
  have hq0 : 0 < q := by omega
  have HQ : Hid (k + 2 * gs.length = q) := hq
  clear hq hkb sh1 hA
  go_wp2_with fail
  refine (markFuncs_any B T _ fs q _ hfl HSF.out hq0 hqb HF1.out).mono ?_
  rintro e w2 ⟨rfl, sh2⟩
  have HS2 : Hid (Sh B T w w2) := HSH.out.trans sh2
  generalize hr : q + sumBy cntF fs = r
  have HR : Hid (q + sumBy cntF fs = r) := hr
  clear hr sh2 x0 x1 hqb
  go_wp2_with fail
  go_ret
  exact ⟨ret_int' (by have := HC.out; have := HQ.out; have := HR.out; omega), HS2.out⟩

/-- From rows of their own to rows that may be marked. -/
theorem NodesO.plain {B : Nat} {w : World} {v : Value} {ns : List Nd} (h : NodesO B w v ns) : PlainM B w.heap.size 136 3 w v ns.length := by
  obtain ⟨g, xs, rfl, ho, hx⟩ := h
  have hlt := own_lt ho
  rcases ho.2 with ⟨h', _⟩ | ⟨g', cap', cur, h', hB, hg, hnc, hcm, hcs, htake⟩
  · simp at h'
  · simp only [Value.slice.injEq, Option.some.injEq, Addr.mk.injEq, and_true, true_and] at h'
    obtain ⟨rfl, rfl⟩ := h'
    refine ⟨g, cur, rfl, hB, hlt.2, hg, hcs, fun i v hv a n c e => ?_⟩
    subst e
    have hi : i < ns.length * 3 := by have := (Array.getElem?_eq_some_iff.1 hv).1; omega
    have e1 : xs[i]? = some (.slice a n c) := by rw [← htake, List.getElem?_take, if_pos hi]; simpa using hv
    have e2 := hx (i / 3) (by omega) (i % 3) (Nat.mod_lt _ (by omega))
    rw [show i / 3 * 3 + i % 3 = i by omega, e1] at e2
    have h3 : i % 3 = 0 ∨ i % 3 = 1 ∨ i % 3 = 2 := by omega
    rcases h3 with h | h | h <;> rw [h] at e2 <;> simp [encN] at e2
theorem StrsO.plain {B : Nat} {w : World} {v : Value} {ns : List ByteArray} (h : StrsO B w v ns) : PlainM B w.heap.size 9 1 w v ns.length := by
  obtain ⟨g, xs, rfl, ho, hx⟩ := h
  have hlt := own_lt ho
  rcases ho.2 with ⟨h', _⟩ | ⟨g', cap', cur, h', hB, hg, hnc, hcm, hcs, htake⟩
  · simp at h'
  · simp only [Value.slice.injEq, Option.some.injEq, Addr.mk.injEq, and_true, true_and] at h'
    obtain ⟨rfl, rfl⟩ := h'
    refine ⟨g, cur, rfl, hB, hlt.2, hg, hcs, fun i v hv a n c e => ?_⟩
    subst e
    have hi : i < ns.length * 1 := by have := (Array.getElem?_eq_some_iff.1 hv).1; omega
    have e1 : xs[i]? = some (.slice a n c) := by rw [← htake, List.getElem?_take, if_pos hi]; simpa using hv
    have e2 := hx i (by omega) 0 (by omega)
    rw [show i * 1 + 0 = i by omega, e1] at e2
    simp [encP] at e2
theorem GlobsO.plain {B : Nat} {w : World} {v : Value} {ns : List Gl} (h : GlobsO B w v ns) : PlainM B w.heap.size 73 2 w v ns.length := by
  obtain ⟨g, xs, rfl, ho, hx⟩ := h
  have hlt := own_lt ho
  rcases ho.2 with ⟨h', _⟩ | ⟨g', cap', cur, h', hB, hg, hnc, hcm, hcs, htake⟩
  · simp at h'
  · simp only [Value.slice.injEq, Option.some.injEq, Addr.mk.injEq, and_true, true_and] at h'
    obtain ⟨rfl, rfl⟩ := h'
    refine ⟨g, cur, rfl, hB, hlt.2, hg, hcs, fun i v hv a n c e => ?_⟩
    subst e
    have hi : i < ns.length * 2 := by have := (Array.getElem?_eq_some_iff.1 hv).1; omega
    have e1 : xs[i]? = some (.slice a n c) := by rw [← htake, List.getElem?_take, if_pos hi]; simpa using hv
    have e2 := hx (i / 2) (by omega) (i % 2) (Nat.mod_lt _ (by omega))
    rw [show i / 2 * 2 + i % 2 = i by omega, e1] at e2
    have h3 : i % 2 = 0 ∨ i % 2 = 1 := by omega
    rcases h3 with h | h <;> rw [h] at e2 <;> simp [encG] at e2
theorem StmtsO.marks {B : Nat} {w : World} {v : Value} {ns : List St} (h : StmtsO B w v ns) : StmtsM B w.heap.size w v ns := by
  obtain ⟨g, xs, V, rfl, ho, hx, hn⟩ := h
  have hlt := own_lt ho
  rcases ho.2 with ⟨h', _⟩ | ⟨g', cap', cur, h', hB, hg, hnc, hcm, hcs, htake⟩
  · simp at h'
  · simp only [Value.slice.injEq, Option.some.injEq, Addr.mk.injEq, and_true, true_and] at h'
    obtain ⟨rfl, rfl⟩ := h'
    have key : ∀ j (h : j < ns.length) i, i < 6 → cur[j * 6 + i]? = (encS ns[j] (V j))[i]? := fun j hj i hi => by
      have e2 := hx j hj i hi
      rw [← htake, List.getElem?_take, if_pos (by omega)] at e2
      simp only [List.getD, hj, List.getElem?_eq_getElem, Option.getD_some] at e2
      simpa using e2
    refine ⟨g, cur, rfl, hB, hlt.2, hg, hcs, fun j hj => ⟨⟨(V j).1, (V j).2, key j hj 2 (by omega), key j hj 3 (by omega), (hn j hj).1.plain, (hn j hj).2.plain⟩, fun i hi v hv a n c e => ?_⟩⟩
    subst e
    rcases hi with rfl | rfl | rfl | rfl
    all_goals (rw [key j hj _ (by omega)] at hv; simp [encS] at hv)
theorem FuncsO.marks {B : Nat} {w : World} {v : Value} {ns : List Fu} (h : FuncsO B w v ns) : FuncsM B w.heap.size w v ns := by
  obtain ⟨g, xs, V, rfl, ho, hx, hn⟩ := h
  have hlt := own_lt ho
  rcases ho.2 with ⟨h', _⟩ | ⟨g', cap', cur, h', hB, hg, hnc, hcm, hcs, htake⟩
  · simp at h'
  · simp only [Value.slice.injEq, Option.some.injEq, Addr.mk.injEq, and_true, true_and] at h'
    obtain ⟨rfl, rfl⟩ := h'
    have key : ∀ j (h : j < ns.length) i, i < 3 → cur[j * 3 + i]? = (encF ns[j] (V j))[i]? := fun j hj i hi => by
      have e2 := hx j hj i hi
      rw [← htake, List.getElem?_take, if_pos (by omega)] at e2
      simp only [List.getD, hj, List.getElem?_eq_getElem, Option.getD_some] at e2
      simpa using e2
    refine ⟨g, cur, rfl, hB, hlt.2, hg, hcs, fun j hj => ⟨⟨(V j).1, (V j).2, key j hj 1 (by omega), key j hj 2 (by omega), (hn j hj).1.plain, (hn j hj).2.marks⟩, fun v hv a n c e => ?_⟩⟩
    subst e
    have := key j hj 0 (by omega)
    rw [Nat.add_zero] at this
    rw [this] at hv
    simp [encF] at hv

end Go.Proofs.YtlbdmahkmangbaaGreatDoor
