import Derived.Test.YtmddmgpijpjpbaaGreatDoorR25
import Derived.Deep.CutRange
namespace Go.Proofs.YtmddmgpijpjpbaaGreatDoor
open Go.RowKit
set_option linter.unusedVariables false
set_option linter.unusedSimpArgs false
set_option maxRecDepth 100000
set_option maxHeartbeats 16000000
theorem GsRow.tk {B M : Nat} {w w' : World} {v : Value} {R : List SV} (h : GsRow B w v R) (hM : M < B) (hT : Tk [M] w w') : GsRow B w' v R := by
  have key : ∀ g, g < w.heap.size → B ≤ g → w'.heap[g]? = w.heap[g]? := fun g h1 h2 => hT.other g h1 (fun e => by simp only [List.mem_singleton] at e; omega)
  refine ⟨own_keep h.row fun g hg => ?_, fun q hq => ?_, h.out, h.low⟩
  · obtain ⟨a, b⟩ := World.ownsRow.lt h.row g hg
    exact key g b a
  · obtain ⟨n1, n2⟩ := h.each q hq
    exact ⟨n1.keepO fun hp g hg => key g (n1.lt hp g hg) ((h.low q hq g).1 hp hg), n2.keepO fun hp g hg => key g (n2.lt hp g hg) ((h.low q hq g).2 hp hg)⟩
theorem Tk.grown {K : List Nat} {w w' w2 : World} {o : Option Nat} (h : Tk K w w') (hg : w'.grownBy w2 o) (ho : ∀ g, o = some g → w.heap.size ≤ g) : Tk K w w2 := by
  refine ⟨⟨hg.os.trans h.still.1, hg.tape.trans h.still.2.1, hg.output.trans h.still.2.2⟩, Nat.le_trans h.size hg.size, fun b hl hb => ?_⟩
  rw [hg.block b (Nat.lt_of_lt_of_le hl h.size) (fun e => by have := ho b e.symm; omega)]
  exact h.other b hl hb
theorem GsRow.far {B : Nat} {w : World} {v : Value} {R : List SV} (h : GsRow B w v R) : ∀ q ∈ R, ∀ g, w.heap.size ≤ g → OutB q g := fun q hq g hg => by
  obtain ⟨n1, n2⟩ := h.each q hq
  exact ⟨fun hp e => by have := n1.lt hp g e; omega, fun hp e => by have := n2.lt hp g e; omega⟩
theorem Nodes.tk {M : Nat} {w w' : World} {v : Value} {ns : List Nd} (h : Nodes w v ns) (hM : ∀ g, ns ≠ [] → v.ownBlock = some g → M < g) (hT : Tk [M] w w') : Nodes w' v ns :=
  h.keepO fun hp g hg => hT.other g (h.lt hp g hg) (fun e => by simp only [List.mem_singleton] at e; have := hM g hp hg; omega)
theorem box_fr (w : World) (x0 x1 x2 x3 x4 x5 : Value) (t : TypeId) : FrC (w.alloc (.cells #[x0, x1, x2, x3, x4, x5] t)) w.heap.size [x0, x1, x2, x3, x4, x5] := by
  intro j x hj
  have hh : (w.alloc (.cells #[x0, x1, x2, x3, x4, x5] t)).heap[w.heap.size]? = some (.cells #[x0, x1, x2, x3, x4, x5] t (0, 0)) := (MapKept.heap_alloc w _).1
  have hz : ∀ j, (w.alloc (.cells #[x0, x1, x2, x3, x4, x5] t)).frozen? ⟨w.heap.size, j, none⟩ = false := fun j => by
    unfold World.frozen?
    simp only [hh]
    simp
  have hl := (List.getElem?_eq_some_iff.1 hj).1
  simp only [List.length_cons, List.length_nil] at hl
  match j, hl with
  | 0, _ => exact ⟨by simp at hj ⊢; exact hj, hz _⟩
  | 1, _ => exact ⟨by simp at hj ⊢; exact hj, hz _⟩
  | 2, _ => exact ⟨by simp at hj ⊢; exact hj, hz _⟩
  | 3, _ => exact ⟨by simp at hj ⊢; exact hj, hz _⟩
  | 4, _ => exact ⟨by simp at hj ⊢; exact hj, hz _⟩
  | 5, _ => exact ⟨by simp at hj ⊢; exact hj, hz _⟩
theorem gs_nil (w : World) (B : Nat) (hB : B ≤ w.heap.size) : GsRow B (w.alloc (.cells #[] 117)) (.slice (some ⟨w.heap.size, 0, none⟩) 0 0) [] :=
  ⟨⟨rfl, .inr ⟨w.heap.size, 0, #[], rfl, hB, (MapKept.heap_alloc w _).1, Nat.le_refl _, by unfold maxLen; omega, rfl, rfl⟩⟩, fun q hq => (by cases hq), fun q hq => (by cases hq), fun q hq => (by cases hq)⟩
theorem stmt_parts {s : St} (h : stmtB s = true) : oneB s.e = true ∧ (s.kind = 3 → oneB s.f = true) ∧ (s.kind ≠ 3 → s.f = []) := by
  unfold stmtB at h
  simp only [Bool.and_eq_true] at h
  obtain ⟨⟨⟨⟨⟨⟨a1, a2⟩, a3⟩, a4⟩, a5⟩, a6⟩, a7⟩ := h
  refine ⟨a3, fun k => ?_, fun k => ?_⟩
  · rw [if_pos k] at a4; exact a4
  · rw [if_neg k] at a4
    exact List.eq_nil_of_length_eq_zero (by simpa using a4)
theorem FrC.six {w : World} {g : Nat} {x0 x1 x2 x3 x4 x5 : Value} (h : FrC w g [x0, x1, x2, x3, x4, x5]) : (w.cell? ⟨g, 0, none⟩ = some x0 ∧ w.cell? ⟨g, 1, none⟩ = some x1 ∧ w.cell? ⟨g, 2, none⟩ = some x2 ∧ w.cell? ⟨g, 3, none⟩ = some x3 ∧ w.cell? ⟨g, 4, none⟩ = some x4 ∧ w.cell? ⟨g, 5, none⟩ = some x5) ∧ (w.frozen? ⟨g, 0, none⟩ = false ∧ w.frozen? ⟨g, 1, none⟩ = false ∧ w.frozen? ⟨g, 2, none⟩ = false ∧ w.frozen? ⟨g, 3, none⟩ = false ∧ w.frozen? ⟨g, 4, none⟩ = false ∧ w.frozen? ⟨g, 5, none⟩ = false) :=
  ⟨⟨(h 0 x0 rfl).1, (h 1 x1 rfl).1, (h 2 x2 rfl).1, (h 3 x3 rfl).1, (h 4 x4 rfl).1, (h 5 x5 rfl).1⟩, (h 0 x0 rfl).2, (h 1 x1 rfl).2, (h 2 x2 rfl).2, (h 3 x3 rfl).2, (h 4 x4 rfl).2, (h 5 x5 rfl).2⟩
/-- What spec.l5Block answers for lists shorter than N. -/
def L5C (N : Nat) : Prop := ∀ (ss rs : List St) (v : Value) (w : World), ss.length < N → Stmts w v ss → fitB ss = true → (∀ s ∈ ss, stmtB s = true ∧ s.e.length ≤ 2000 ∧ s.f.length ≤ 2000) → FoldB ss rs → ss.length ≤ 1000 → Calls Tryz.prog 40 #[v] w fun e w' => ∃ u R, e = .returned u ∧ GsRow w.heap.size w' u R ∧ R.map (·.s) = tidyB rs ∧ Below w.heap.size w w'
set_option maxRecDepth 100000 in
set_option maxHeartbeats 4000000 in
theorem l5block_step (N : Nat) (ih : L5C N) : L5C (N + 1) := by
  intro ss rs v w hn hS hfit hok hF hl
  have IH : Hid (L5C N) := ih
  have HS : Hid (Stmts w v ss) := hS
  have HF : Hid (fitB ss = true) := hfit
  have HOk : Hid (∀ s ∈ ss, stmtB s = true ∧ s.e.length ≤ 2000 ∧ s.f.length ≤ 2000) := hok
  have HFd : Hid (FoldB ss rs) := hF
  obtain ⟨a, cap, rfl, hc1, hc2, hcc⟩ := hS
  have HC : Hid (0 < ss.length → ∃ b off, a = some ⟨b, off, none⟩ ∧ StmtsC w b off ss) := hcc
  have hrl := hF.1
  clear ih hfit hok hF hcc
  go_enter Tryz.func40, Tryz.ntmps40
  go_wp2_with fail
  have HR0 : Hid (GsRow w.heap.size (w.alloc (.cells #[] 117)) (.slice (some ⟨w.heap.size, 0, none⟩) 0 0) []) := gs_nil w _ (Nat.le_refl _)
  go_loopw [3, 4, 5] (fun ov i en wr => ∃ (k : Nat) (R : List SV) (d : Bool), k ≤ ss.length ∧ i = .int .i64 k ∧ en = .bool d ∧ GsRow w.heap.size wr ov R ∧ R.length ≤ k ∧ fitB (ss.drop k) = true ∧ tidyB rs = R.map (·.s) ++ (if d = true then [] else tidyB (rs.drop k)) ∧ Below w.heap.size w wr) (fun _ i _ _ => ss.length - (RowKit.intOf i).toNat)
  case atStart => exact ⟨0, [], false, Nat.zero_le _, rfl, rfl, HR0.out, Nat.le_refl _, by simpa using HF.out, by simp, (Below.refl _ _).alloc (Nat.le_refl _) _⟩
  case round =>
    obtain ⟨k, R, d, hk, rfl, rfl, hR, hRl, hfk, hres, hB⟩ := hrel
    obtain ⟨ao, co, rfl, hR1, hR2, hR3⟩ := hR.shape
    have HR : Hid (GsRow w.heap.size wr (.slice ao R.length co) R) := hR
    have HRes : Hid (tidyB rs = R.map (·.s) ++ (if d = true then [] else tidyB (rs.drop k))) := hres
    clear HR0 HF hR hres hR1 hR2 hR3
    by_cases hlt : k < ss.length
    · cases d with
      | true =>
        have HE : Hid (R.map (·.s) = tidyB rs) := by show _ = _; rw [HRes.out]; simp
        go_wp2_with fail
        go_ret
        first | exact ⟨_, R, rfl, HR.out, HE.out, hB⟩ | exact ⟨_, rfl, R, HR.out, HE.out, hB⟩
      | false =>
        obtain ⟨b, off, rfl, hcc⟩ := HC.out (by omega)
        obtain ⟨ve, vf, ⟨c0, c1, c2, c3, c4, c5⟩, hve, hvf⟩ := (hcc.below hB) k hlt
        obtain ⟨p1, p2, p3, p4, p5, p6⟩ := fit_at hlt hfk
        have hkr : k < rs.length := by omega
        obtain ⟨f1, f2, f3, f4, f5, f6⟩ := HFd.out.2 k hlt hkr
        obtain ⟨o1, o2, o3⟩ := HOk.out _ (List.getElem_mem hlt)
        obtain ⟨t1, t2⟩ := tidy_at hkr
        obtain ⟨q1, q2, q3⟩ := stmt_parts o1
        have hFe := f5.yes o2 q1
        obtain ⟨kk, hkk⟩ : ∃ kk, ss[k].kind = kk := ⟨_, rfl⟩
        obtain ⟨nm, hnm⟩ : ∃ nm, ss[k].name = nm := ⟨_, rfl⟩
        obtain ⟨tn, htn⟩ : ∃ tn : Nat, ss[k].thn = tn := ⟨ss[k].thn.toNat, by omega⟩
        obtain ⟨es, hes⟩ : ∃ es : Nat, ss[k].els = es := ⟨ss[k].els.toNat, by omega⟩
        obtain ⟨r, hr⟩ : ∃ r, rs[k] = r := ⟨_, rfl⟩
        rw [hr] at f1 f2 f3 f4 f5 f6 hFe
        rw [hr, f3, f4, htn, hes] at t1 t2
        rw [htn, hes] at p3 p5 p6
        rw [htn] at c4 p4
        rw [hes] at c5
        rw [hkk] at c0 f1 q2 q3
        rw [hnm] at c1 f2
        rw [htn] at f3
        rw [hes] at f4
        simp only [Int.toNat_natCast] at t1 t2 p3 p4 p5 p6
        obtain ⟨H, hH⟩ : ∃ H, H = headM r (rs.drop (k + 1)) := ⟨_, rfl⟩
        obtain ⟨LA, hLA⟩ : ∃ LA, LA = tidyB ((rs.take (k + 1 + tn)).drop (k + 1)) := ⟨_, rfl⟩
        obtain ⟨LB, hLB⟩ : ∃ LB, LB = tidyB ((rs.take (k + 1 + tn + es)).drop (k + 1 + tn)) := ⟨_, rfl⟩
        rw [← hH] at t1 t2
        rw [← hLA, ← hLB] at t2
        have HH : Hid (H = moreS r LA LB) := t2
        have HTd : Hid (tidyB rs = R.map (·.s) ++ (if endsB H = true then H else H ++ tidyB (rs.drop (k + 1 + tn + es)))) := by
          show _ = _
          rw [HRes.out, ← t1]
          simp
        have HP6 : Hid (fitB (ss.drop (k + 1 + tn + es)) = true) := p6
        have HKd : Hid (r.kind = kk ∧ r.name = nm) := ⟨f1, f2⟩
        have hLl : LA.length ≤ tn ∧ LB.length ≤ es := by
          have e1 := tidyB_len _ ((rs.take (k + 1 + tn)).drop (k + 1)) (Nat.le_refl _)
          have e2 := tidyB_len _ ((rs.take (k + 1 + tn + es)).drop (k + 1 + tn)) (Nat.le_refl _)
          rw [← hLA] at e1
          rw [← hLB] at e2
          simp only [List.length_drop, List.length_take] at e1 e2
          omega
        have HLf : Hid (fitB LA = true ∧ fitB LB = true) := ⟨by rw [hLA]; exact tidyB_fit _ _ (Nat.le_refl _), by rw [hLB]; exact tidyB_fit _ _ (Nat.le_refl _)⟩
        obtain ⟨a1, ha1⟩ : ∃ a1, (if cap = k + 1 then some (⟨b, off, none⟩ : Addr) else (some (⟨b, off, none⟩ : Addr)).map (·.add ((k + 1) * 6))) = a1 := ⟨_, rfl⟩
        obtain ⟨a2, ha2⟩ : ∃ a2, (if cap = k + 1 + tn then some (⟨b, off, none⟩ : Addr) else (some (⟨b, off, none⟩ : Addr)).map (·.add ((k + 1 + tn) * 6))) = a2 := ⟨_, rfl⟩
        have s1 := cut_run2 (some ⟨b, off, none⟩) ss.length cap (k + 1) (k + 1 + tn) (by omega) (by omega) hc1 ((k : Int) + 1) ((k : Int) + 1 + tn) (by omega) (by omega)
        have s2 := cut_run2 (some ⟨b, off, none⟩) ss.length cap (k + 1 + tn) (k + 1 + tn + es) (by omega) (by omega) hc1 ((k : Int) + 1 + tn) ((k : Int) + 1 + tn + es) (by omega) (by omega)
        have g1 := HS.out.cut (k + 1) (k + 1 + tn) (by omega) (by omega)
        have g2 := HS.out.cut (k + 1 + tn) (k + 1 + tn + es) (by omega) (by omega)
        rw [ha1, Nat.add_sub_cancel_left] at s1 g1
        rw [ha2, Nat.add_sub_cancel_left] at s2 g2
        have HI1 : Hid (∀ W, Below w.heap.size w W → Calls Tryz.prog 40 #[.slice a1 tn (cap - (k + 1))] W fun e w' => ∃ u R', e = .returned u ∧ GsRow W.heap.size w' u R' ∧ R'.map (·.s) = LA ∧ Below W.heap.size W w') := fun W hW => by
          rw [hLA]
          exact IH.out _ _ _ W (by simp; omega) (g1.below hW) p4 (fun s hs => HOk.out s (List.mem_of_mem_take (List.mem_of_mem_drop hs))) ((HFd.out.take _).drop _) (by simp; omega)
        have HI2 : Hid (∀ W, Below w.heap.size w W → Calls Tryz.prog 40 #[.slice a2 es (cap - (k + 1 + tn))] W fun e w' => ∃ u R', e = .returned u ∧ GsRow W.heap.size w' u R' ∧ R'.map (·.s) = LB ∧ Below W.heap.size W w') := fun W hW => by
          rw [hLB]
          exact IH.out _ _ _ W (by simp; omega) (g2.below hW) p5 (fun s hs => HOk.out s (List.mem_of_mem_take (List.mem_of_mem_drop hs))) ((HFd.out.take _).drop _) (by simp; omega)
        have HFe : Hid (∀ W, Below wr.heap.size wr W → Calls Tryz.prog 67 #[ve] W fun x w' => ∃ au nu cu, x = .returned (.slice au nu cu) ∧ Nodes w' (.slice au nu cu) r.e ∧ (∀ g, (Value.slice au nu cu).ownBlock = some g → W.heap.size ≤ g) ∧ Below W.heap.size W w') := fun W hW => by
          refine (foldS_any wr hFe (by omega) ve W hve hW).mono ?_
          rintro x w' ⟨u, rfl, h1, h2, h3⟩
          obtain ⟨au, cu, rfl, -⟩ := id h1
          exact ⟨au, _, cu, rfl, h1, h2, h3⟩
        have HFf : Hid (kk = 3 → ∀ W, Below wr.heap.size wr W → Calls Tryz.prog 67 #[vf] W fun x w' => ∃ au nu cu, x = .returned (.slice au nu cu) ∧ Nodes w' (.slice au nu cu) r.f ∧ (∀ g, (Value.slice au nu cu).ownBlock = some g → W.heap.size ≤ g) ∧ Below W.heap.size W w') := fun h3 W hW => by
          refine (foldS_any wr (f6.yes o3 (q2 h3)) (by omega) vf W hvf hW).mono ?_
          rintro x w' ⟨u, rfl, h1, h2, h3⟩
          obtain ⟨au, cu, rfl, -⟩ := id h1
          exact ⟨au, _, cu, rfl, h1, h2, h3⟩
        have HNf : Hid (kk ≠ 3 → r.f = [] ∧ Nodes wr vf []) := fun h => by
          have e := q3 h
          rw [e] at f6 hvf
          exact ⟨f6.nil, hvf⟩
        have HRe : Hid (0 < r.e.length ∧ r.e.length ≤ 2000) := ⟨hFe.pos, f5.len⟩
        obtain ⟨ave, cve, rfl, -⟩ := id hve
        obtain ⟨avf, cvf, rfl, -⟩ := id hvf
        obtain ⟨lve, hlve⟩ : ∃ l, ss[k].e.length = l := ⟨_, rfl⟩
        obtain ⟨lvf, hlvf⟩ : ∃ l, ss[k].f.length = l := ⟨_, rfl⟩
        rw [hlve] at c2 HFe
        rw [hlvf] at c3 HFf HNf
        have i1 : (0 : Int) ≤ (k : Int) := by omega
        have i2 : (k : Int) < (ss.length : Int) := by omega
        have i3 : (k : Int) + 1 + tn + es ≤ (ss.length : Int) := by omega
        clear hcc p1 p2 p4 p5 p6 f1 f2 f3 f4 f5 f6 o1 o2 o3 q1 q2 q3 hFe t1 t2 hH hLA hLB ha1 ha2 g1 g2 hkk hnm htn hes hr hlve hlvf hve hvf HRes hfk IH HFd HOk HC
        obtain ⟨W0, hW0⟩ : ∃ W0, W0 = wr.alloc (.cells #[.int .i64 kk, .string nm, .slice ave lve cve, .slice avf lvf cvf, .int .i64 tn, .int .i64 es] 117) := ⟨_, rfl⟩
        obtain ⟨M, hM⟩ : ∃ M, M = wr.heap.size := ⟨_, rfl⟩
        have HX0 : Hid (FrC W0 M [.int .i64 kk, .string nm, .slice ave lve cve, .slice avf lvf cvf, .int .i64 tn, .int .i64 es]) := by rw [hW0, hM]; exact box_fr _ _ _ _ _ _ _ _
        have hs0 : W0.heap.size = M + 1 := by rw [hW0, hM]; simp
        have hbr0 : Below wr.heap.size wr W0 := by rw [hW0]; exact (Below.refl _ _).alloc (Nat.le_refl _) _
        have hbw0 : Below w.heap.size w W0 := hB.trans (hbr0.mono hB.size)
        have HW0 : Hid (W0 = _) := hW0
        have HBr0 : Hid (Below wr.heap.size wr W0) := hbr0
        have HMr : Hid (M = wr.heap.size) := hM
        clear hW0 hbr0 hM
        go_wp2_with fail
        rw [← HW0.out, ← HMr.out]
        refine (HI1.out W0 hbw0).mono ?_
        rintro e w1 ⟨u1, R1, rfl, hg1, hm1, hb1⟩
        obtain ⟨ax1, cx1, rfl, -⟩ := id hg1.shape
        have HG1 : Hid (GsRow W0.heap.size w1 (.slice ax1 R1.length cx1) R1) := hg1
        have HM1 : Hid (R1.map (·.s) = LA) := hm1
        have HRl1 : Hid (R1.length = LA.length) := by show _ = _; rw [← hm1]; simp
        have HX1 : Hid (FrC w1 M [.int .i64 kk, .string nm, .slice ave lve cve, .slice avf lvf cvf, .int .i64 tn, .int .i64 es]) := HX0.out.below hb1
        have hbw1 : Below w.heap.size w w1 := hbw0.trans (hb1.mono hbw0.size)
        have HB1 : Hid (Below W0.heap.size W0 w1) := hb1
        obtain ⟨⟨-, -, -, -, y4, y5⟩, -⟩ := HX1.out.six
        clear hg1 hm1 hb1 HI1 s1
        go_wp2_with fail
        refine (HI2.out w1 hbw1).mono ?_
        rintro e w2 ⟨u2, R2, rfl, hg2, hm2, hb2⟩
        obtain ⟨ax2, cx2, rfl, -⟩ := id hg2.shape
        have HG2 : Hid (GsRow w1.heap.size w2 (.slice ax2 R2.length cx2) R2) := hg2
        have HM2 : Hid (R2.map (·.s) = LB) := hm2
        have HRl2 : Hid (R2.length = LB.length) := by show _ = _; rw [← hm2]; simp
        have HX2 : Hid (FrC w2 M [.int .i64 kk, .string nm, .slice ave lve cve, .slice avf lvf cvf, .int .i64 tn, .int .i64 es]) := HX1.out.below hb2
        have HB2 : Hid (Below w1.heap.size w1 w2) := hb2
        have hbr2 : Below wr.heap.size wr w2 := HBr0.out.trans ((HB1.out.trans (hb2.mono HB1.out.size)).mono HBr0.out.size)
        clear y4 y5
        obtain ⟨⟨-, -, y2, -, y4, y5⟩, -⟩ := HX2.out.six
        clear hg2 hm2 hb2 HI2 s2 hbw1 hbw0 HX1 HX0
        go_wp2_with fail
        refine (HFe.out w2 hbr2).mono ?_
        rintro e w3 ⟨au, nu, cu, rfl, hn3, hg3, hb3⟩
        clear y2 y4 y5
        have hsz : M + 1 ≤ w1.heap.size ∧ w1.heap.size ≤ w2.heap.size ∧ w2.heap.size ≤ w3.heap.size := ⟨by rw [← hs0]; exact HB1.out.size, HB2.out.size, hb3.size⟩
        have HX3 : Hid (FrC w3 M [.int .i64 kk, .string nm, .slice ave lve cve, .slice avf lvf cvf, .int .i64 tn, .int .i64 es]) := HX2.out.below hb3
        obtain ⟨⟨y0, -, y2, -, -, -⟩, -, -, z2, -, -, -⟩ := HX3.out.six
        have HX4 : Hid (FrC (w3.setCell ⟨M, 2, none⟩ (.slice au nu cu)) M [.int .i64 kk, .string nm, .slice au nu cu, .slice avf lvf cvf, .int .i64 tn, .int .i64 es]) := HX3.out.set 2 _
        have hT3 : Tk [M] w3 (w3.setCell ⟨M, 2, none⟩ (.slice au nu cu)) := Tk.put _ _ _ (by simp)
        have HN3 : Hid (Nodes (w3.setCell ⟨M, 2, none⟩ (.slice au nu cu)) (.slice au nu cu) r.e) := hn3.tk (fun g _ hg => by have := hg3 g hg; omega) hT3
        have HL3 : Hid (∀ g, (Value.slice au nu cu).ownBlock = some g → M + 1 ≤ g) := fun g hg => by have := hg3 g hg; omega
        have HT3 : Hid (Tk [M] w2 (w3.setCell ⟨M, 2, none⟩ (.slice au nu cu))) := (Tk.of_below hb3).trans hT3
        clear hn3 hg3 hb3 HFe hbr2 HX2 HX3 hT3
        obtain ⟨W3, hW3⟩ : ∃ W3, W3 = w3.setCell ⟨M, 2, none⟩ (.slice au nu cu) := ⟨_, rfl⟩
        rw [← hW3] at HX4 HN3 HT3
        have HW3 : Hid (W3 = w3.setCell ⟨M, 2, none⟩ (.slice au nu cu)) := hW3
        clear hW3
        go_upto_if 65 with fail
        rw [← HW3.out]
        go_cut [6] from 13 to 116 (fun p W => p = .pointer (some ⟨M, 0, none⟩) ∧ ∃ af nf cf, FrC W M [.int .i64 kk, .string nm, .slice au nu cu, .slice af nf cf, .int .i64 tn, .int .i64 es] ∧ Nodes W (.slice af nf cf) r.f ∧ (∀ g, r.f ≠ [] → (Value.slice af nf cf).ownBlock = some g → M + 1 ≤ g) ∧ Tk [M] W3 W)
        case first => as_aux_lemma =>
          by_cases h3 : kk = 3
          · have HFf3 := HFf.out h3
            subst h3
            obtain ⟨⟨-, -, -, x3, -, -⟩, -, -, -, z3, -, -⟩ := HX4.out.six
            have hbr3 : Below wr.heap.size wr W3 := by
              have h2 : Below wr.heap.size wr w2 := HBr0.out.trans ((HB1.out.trans (HB2.out.mono HB1.out.size)).mono HBr0.out.size)
              have h3 := HT3.out.below (B := wr.heap.size) (fun g hg => by simp only [List.mem_singleton] at hg; rw [hg, HMr.out]; exact Nat.le_refl _) (by have := HMr.out; omega)
              exact h2.trans h3
            have hsW : M + 1 ≤ W3.heap.size := by have := HT3.out.size; omega
            clear y0 y2 z2
            go_wp2_with fail
            refine (HFf3 W3 hbr3).mono ?_
            rintro e w4 ⟨af, nf, cf, rfl, hn4, hg4, hb4⟩
            have HX5 : Hid (FrC w4 M [.int .i64 3, .string nm, .slice au nu cu, .slice avf lvf cvf, .int .i64 tn, .int .i64 es]) := HX4.out.below hb4
            clear x3 z3
            obtain ⟨⟨-, -, -, x3, -, -⟩, -, -, -, z3, -, -⟩ := HX5.out.six
            have hT4 : Tk [M] w4 (w4.setCell ⟨M, 3, none⟩ (.slice af nf cf)) := Tk.put _ _ _ (by simp)
            have HN4 : Hid (Nodes (w4.setCell ⟨M, 3, none⟩ (.slice af nf cf)) (.slice af nf cf) r.f) := hn4.tk (fun g _ hg => by have := hg4 g hg; omega) hT4
            have HL4 : Hid (∀ g, r.f ≠ [] → (Value.slice af nf cf).ownBlock = some g → M + 1 ≤ g) := fun g _ hg => by have := hg4 g hg; omega
            have HT4 : Hid (Tk [M] W3 (w4.setCell ⟨M, 3, none⟩ (.slice af nf cf))) := (Tk.of_below hb4).trans hT4
            clear hn4 hg4 hb4 hT4
            go_wp2_with fail
            go_meet
            case rel => exact ⟨rfl, af, nf, cf, HX5.out.set 3 _, HN4.out, HL4.out, HT4.out⟩
          · have b3 : (kk == 3) = false := by simpa using h3
            obtain ⟨e1, e2⟩ := HNf.out h3
            have HN4 : Hid (Nodes W3 (.slice avf lvf cvf) r.f) := by
              rw [e1]
              obtain ⟨a', c', e, h1, h2, -⟩ := e2
              exact ⟨a', c', e, h1, h2, fun h => absurd h (by simp)⟩
            have HL4 : Hid (r.f = []) := e1
            clear e1 e2
            go_wp2_with fail
            go_meet
            case rel => exact ⟨rfl, avf, lvf, cvf, HX4.out, HN4.out, fun g h => absurd HL4.out h, Tk.refl _ _⟩
        case rest =>
          obtain ⟨rfl, af, nf, cf, hx, hnf, hlf, hT4⟩ := hcut
          have HX5 : Hid (FrC wc M [.int .i64 kk, .string nm, .slice au nu cu, .slice af nf cf, .int .i64 tn, .int .i64 es]) := hx
          have HN5 : Hid (Nodes wc (.slice au nu cu) r.e ∧ Nodes wc (.slice af nf cf) r.f) := ⟨HN3.out.tk (fun g _ hg => HL3.out g hg) hT4, hnf⟩
          have HL5 : Hid (∀ g, r.f ≠ [] → (Value.slice af nf cf).ownBlock = some g → M + 1 ≤ g) := hlf
          have HT5 : Hid (Tk [M] w2 wc) := HT3.out.trans hT4
          have hsc : M + 1 ≤ wc.heap.size := by have := HT5.out.size; omega
          clear y0 y2 z2
          obtain ⟨⟨-, -, y2, -, -, -⟩, -⟩ := HX5.out.six
          clear hx hnf hlf hT4 HX4 HN3 HT3 HFf HNf HW3
          obtain ⟨nb, hnb⟩ : ∃ nb, (isN r.e).isSome = nb := ⟨_, rfl⟩
          have HIs : Hid (Calls Tryz.prog 68 #[.slice au nu cu] wc fun e w' => ∃ y, e = .returned (.tuple #[.bool nb, .int .i64 y]) ∧ (∀ x, isN r.e = some x → y = x) ∧ Below wc.heap.size wc w') := by
            rw [← hnb]
            exact is2 _ r.e wc HRe.out.1 (by have := HRe.out.2; omega) HN5.out.1
          have HNb : Hid ((isN r.e).isSome = nb) := hnb
          clear hnb
          go_wp2_with fail
          refine HIs.out.mono ?_
          rintro e w4 ⟨y, rfl, hy, hb4⟩
          have HY : Hid (∀ x, isN r.e = some x → y = x) := hy
          have HX6 : Hid (FrC w4 M [.int .i64 kk, .string nm, .slice au nu cu, .slice af nf cf, .int .i64 tn, .int .i64 es]) := HX5.out.below hb4
          have HN6 : Hid (Nodes w4 (.slice au nu cu) r.e ∧ Nodes w4 (.slice af nf cf) r.f) := ⟨HN5.out.1.below hb4, HN5.out.2.below hb4⟩
          have HT6 : Hid (Tk [M] w2 w4) := HT5.out.trans (Tk.of_below hb4)
          have hs4 : M + 1 ≤ w4.heap.size := Nat.le_trans hsc hb4.size
          clear hy hb4 y2 HX5 HN5 HT5 HIs hsc
          obtain ⟨W5, hW5⟩ : ∃ W5, W5 = w4.alloc (.cells #[] 117) := ⟨_, rfl⟩
          have hb5 : Below w4.heap.size w4 W5 := by rw [hW5]; exact (Below.refl _ _).alloc (Nat.le_refl _) _
          have HX7 : Hid (FrC W5 M [.int .i64 kk, .string nm, .slice au nu cu, .slice af nf cf, .int .i64 tn, .int .i64 es]) := HX6.out.below hb5
          have HN7 : Hid (Nodes W5 (.slice au nu cu) r.e ∧ Nodes W5 (.slice af nf cf) r.f) := ⟨HN6.out.1.below hb5, HN6.out.2.below hb5⟩
          have HT7 : Hid (Tk [M] w2 W5) := HT6.out.trans (Tk.of_below hb5)
          have HG7 : Hid (GsRow (M + 1) W5 (.slice (some ⟨w4.heap.size, 0, none⟩) 0 0) []) := by rw [hW5]; exact gs_nil w4 _ hs4
          have HW5 : Hid (W5 = _) := hW5
          have hs5 : w4.heap.size < W5.heap.size := by rw [hW5]; simp
          have HTa : Hid (Tk [M] w2 w4) := HT6.out
          clear hW5 hb5 HX6 HT6
          obtain ⟨c82, hc82⟩ : ∃ c82, c82 = (decide (kk = 4) && nb) := ⟨_, rfl⟩
          have HC82 : Hid (c82 = (decide (kk = 4) && nb)) := hc82
          clear hc82
          go_upto_region 14 with fail
          rw [← HW5.out]
          obtain ⟨E5, hE5⟩ : ∃ E5, E5 = w4.heap.size := ⟨_, rfl⟩
          rw [← hE5] at HG7 hs5 ⊢
          have HE5 : Hid (E5 = w4.heap.size) := hE5
          clear hE5
          go_cut [82] from 13 to 116 (fun e W => e = .bool c82 ∧ W = W5)
          case first => as_aux_lemma =>
            obtain ⟨⟨y0, -⟩, -⟩ := HX7.out.six
            by_cases h4 : kk = 4
            · have HV : Hid (c82 = nb) := by show _ = _; rw [HC82.out]; simp [h4]
              rw [h4] at y0
              go_wp2_with fail
              go_meet
              case rel => exact ⟨by rw [HV.out], rfl⟩
            · have HV : Hid (c82 = false) := by show _ = _; rw [HC82.out]; simp [h4]
              have b4 : (kk == 4) = false := by simpa using h4
              go_wp2_with fail
              go_meet
              case rel => exact ⟨by rw [HV.out], rfl⟩
          case rest =>
            obtain ⟨rfl, hwc⟩ := hcut
            subst wc
            have hs2 : w2.heap.size ≤ E5 := by
              have h1 := HT7.out.size
              have h2 := HTa.out.size
              rw [HE5.out]; exact h2
            have HGA : Hid (GsRow (M + 1) w2 (.slice ax1 R1.length cx1) R1) := by rw [← hs0]; exact HG1.out.below HB2.out
            have HGB : Hid (GsRow (M + 1) w2 (.slice ax2 R2.length cx2) R2) := HG2.out.base hsz.1
            have HBr2 : Hid (Below wr.heap.size wr w2) := HBr0.out.trans ((HB1.out.trans (HB2.out.mono HB1.out.size)).mono HBr0.out.size)
            clear HG1 HG2 HB1 HB2 HBr0
            go_upto_if 82 with fail
            go_cut [11] from 13 to 116 (fun mv W => ∃ am cm Mo, mv = .slice am (List.length Mo) cm ∧ GsRow (M + 1) W mv Mo ∧ Mo.map (·.s) = H ∧ Tk [M] w2 W)
            case first =>
              cases hc : c82 with
              | true =>
                have h4 : kk = 4 ∧ nb = true := by
                  have := HC82.out
                  rw [hc] at this
                  simpa using this.symm
                obtain ⟨rfl, rfl⟩ := h4
                obtain ⟨x, hx⟩ := Option.isSome_iff_exists.1 HNb.out
                obtain rfl := HY.out x hx
                have HHx : Hid (H = if y = 0 then LB else LA) := by
                  show _ = _
                  rw [HH.out, moreS, if_pos HKd.out.1, hx]
                have HA5 : Hid (GsRow (M + 1) W5 (.slice ax1 R1.length cx1) R1) := HGA.out.tk (by omega) HT7.out
                have HB5 : Hid (GsRow (M + 1) W5 (.slice ax2 R2.length cx2) R2) := HGB.out.tk (by omega) HT7.out
                clear hx hc
                by_cases hy0 : y = 0
                · subst hy0
                  have HHy : Hid (R2.map (·.s) = H) := by show _ = _; rw [HHx.out, if_pos rfl]; exact HM2.out
                  go_wp2_with fail
                  go_meet
                  case rel => exact ⟨ax2, cx2, R2, rfl, HB5.out, HHy.out, HT7.out⟩
                · have b0 : (y == 0) = false := by simpa using hy0
                  have HHy : Hid (R1.map (·.s) = H) := by show _ = _; rw [HHx.out, if_neg hy0]; exact HM1.out
                  go_wp2_with fail
                  go_meet
                  case rel => exact ⟨ax1, cx1, R1, rfl, HA5.out, HHy.out, HT7.out⟩
              | false =>
                have HN4 : Hid (kk = 4 → nb = false) := fun h => by
                  have := HC82.out
                  rw [hc, h] at this
                  simpa using this.symm
                clear hc HC82
                obtain ⟨c97, hc97⟩ : ∃ c97, c97 = (!(decide (kk = 5)) || !nb || !(decide (y = 0))) := ⟨_, rfl⟩
                have HC97 : Hid (c97 = (!(decide (kk = 5)) || !nb || !(decide (y = 0)))) := hc97
                clear hc97
                go_upto_region 18 with fail
                go_cut [97] from 13 to 116 (fun e W => e = .bool c97 ∧ W = W5)
                case first => as_aux_lemma =>
                  obtain ⟨⟨y0, -⟩, -⟩ := HX7.out.six
                  by_cases h5 : kk = 5
                  · subst h5
                    cases nb with
                    | true =>
                      by_cases hy0 : y = 0
                      · have HV : Hid (c97 = false) := by show _ = _; rw [HC97.out]; simp [hy0]
                        subst hy0
                        go_wp2_with fail
                        go_meet
                        case rel => exact ⟨by rw [HV.out], rfl⟩
                      · have HV : Hid (c97 = true) := by show _ = _; rw [HC97.out]; simp [hy0]
                        have b0 : (y != 0) = true := by simpa using hy0
                        go_wp2_with fail
                        go_meet
                        case rel => exact ⟨by rw [HV.out], rfl⟩
                    | false =>
                      have HV : Hid (c97 = true) := by show _ = _; rw [HC97.out]; simp
                      go_wp2_with fail
                      go_meet
                      case rel => exact ⟨by rw [HV.out], rfl⟩
                  · have HV : Hid (c97 = true) := by show _ = _; rw [HC97.out]; simp [h5]
                    have b5 : (kk == 5) = false := by simpa using h5
                    go_wp2_with fail
                    go_meet
                    case rel => exact ⟨by rw [HV.out], rfl⟩
                case rest =>
                  obtain ⟨rfl, hwc⟩ := hcut
                  subst wc
                  cases hc : c97 with
                  | false =>
                    have HHx : Hid (H = []) := by
                      show _ = _
                      have := HC97.out
                      rw [hc] at this
                      have h5 : (kk = 5 ∧ nb = true) ∧ y = 0 := by simpa [and_assoc] using this.symm
                      obtain ⟨⟨h5, hn⟩, hy0⟩ := h5
                      have hs := HNb.out
                      rw [hn] at hs
                      obtain ⟨x, hx⟩ := Option.isSome_iff_exists.1 hs
                      have hyx := HY.out x hx
                      rw [HH.out, moreS, if_neg (by rw [HKd.out.1]; omega), if_pos (by rw [HKd.out.1]; exact h5), if_pos (by rw [hx, ← hyx, hy0])]
                    go_wp2_with fail
                    go_meet
                    case rel => exact ⟨some ⟨E5, 0, none⟩, 0, [], rfl, HG7.out, by rw [HHx.out]; rfl, HT7.out⟩
                  | true =>
                    obtain ⟨q, hq⟩ : ∃ q : SV, q = ⟨⟨kk, nm, r.e, r.f, (R1.length : Int), (R2.length : Int)⟩, .slice au nu cu, .slice af nf cf, [], []⟩ := ⟨_, rfl⟩
                    have HHx : Hid (([q] ++ R1 ++ R2).map (·.s) = H) := by
                      show _ = _
                      have e0 : H = { r with thn := LA.length, els := LB.length } :: (LA ++ LB) := by
                        have := HC97.out
                        rw [hc] at this
                        rw [HH.out, moreS, HKd.out.1]
                        by_cases h4 : kk = 4
                        · rw [if_pos h4]
                          have hs := HNb.out
                          rw [HN4.out h4] at hs
                          cases hi : isN r.e with
                          | none => rfl
                          | some x => rw [hi] at hs; cases hs
                        · rw [if_neg h4]
                          by_cases h5 : kk = 5
                          · rw [if_pos h5, if_neg]
                            intro hi
                            have hs := HNb.out
                            have hyx := HY.out 0 hi
                            rw [hi] at hs
                            rw [h5, hyx, ← hs] at this
                            simp at this
                          · rw [if_neg h5]
                      rw [e0, hq, ← HM1.out, ← HM2.out, ← HKd.out.1, ← HKd.out.2]
                      simp
                    obtain ⟨⟨x0, x1, x2, x3, x4, x5⟩, z0, z1, z2, z3, z4, z5⟩ := HX7.out.six
                    have HX8 : Hid (FrC ((W5.setCell ⟨M, 4, none⟩ (.int .i64 R1.length)).setCell ⟨M, 5, none⟩ (.int .i64 R2.length)) M [.int .i64 kk, .string nm, .slice au nu cu, .slice af nf cf, .int .i64 R1.length, .int .i64 R2.length]) := (HX7.out.set 4 _).set 5 _
                    obtain ⟨W8, hW8⟩ : ∃ W8, W8 = (W5.setCell ⟨M, 4, none⟩ (.int .i64 (R1.length : Int))).setCell ⟨M, 5, none⟩ (.int .i64 (R2.length : Int)) := ⟨_, rfl⟩
                    have hT8 : Tk [M] W5 W8 := by rw [hW8]; exact (Tk.put _ _ _ (by simp)).trans (Tk.put _ _ _ (by simp))
                    have hs8 : W8.heap.size = W5.heap.size := by rw [hW8]; simp
                    rw [← hW8] at HX8
                    obtain ⟨⟨v0, v1, v2, v3, v4, v5⟩, -⟩ := HX8.out.six
                    obtain ⟨W9, hW9⟩ : ∃ W9, W9 = W8.alloc (.cells #[.int .i64 kk, .string nm, .slice au nu cu, .slice af nf cf, .int .i64 (R1.length : Int), .int .i64 (R2.length : Int)] 117) := ⟨_, rfl⟩
                    have hb9 : Below W8.heap.size W8 W9 := by rw [hW9]; exact (Below.refl _ _).alloc (Nat.le_refl _) _
                    have hT9 : Tk [M] W5 W9 := hT8.trans (Tk.of_below hb9)
                    have hT92 : Tk [M] w2 W9 := HT7.out.trans hT9
                    have hF9 : FrC W9 W8.heap.size [.int .i64 kk, .string nm, .slice au nu cu, .slice af nf cf, .int .i64 (R1.length : Int), .int .i64 (R2.length : Int)] := by rw [hW9]; exact box_fr _ _ _ _ _ _ _ _
                    have hn9 : Nodes W9 q.ve q.s.e ∧ Nodes W9 q.vf q.s.f := by
                      rw [hq]
                      exact ⟨HN7.out.1.tk (fun g _ hg => HL3.out g hg) hT9, HN7.out.2.tk (fun g h hg => HL5.out g h hg) hT9⟩
                    have hoq : ∀ g, E5 ≤ g → OutB q g := fun g hg => by
                      rw [hq]
                      refine ⟨fun hp e => ?_, fun hp e => ?_⟩
                      · have := HN6.out.1.lt hp g e; have := HE5.out; omega
                      · have := HN6.out.2.lt hp g e; have := HE5.out; omega
                    have hlq : LowB q (M + 1) := fun g => by
                      rw [hq]
                      exact ⟨fun _ e => HL3.out g e, fun hp e => HL5.out g hp e⟩
                    have hfar : ∀ x ∈ R1 ++ R2, ∀ g, E5 ≤ g → OutB x g := fun x hx g hg => by
                      rcases List.mem_append.1 hx with hx | hx
                      · exact HGA.out.far x hx g (by omega)
                      · exact HGB.out.far x hx g (by omega)
                    have hM9 : M + 1 ≤ W9.heap.size := by have := hb9.size; omega
                    have h2E : ∀ g, (Value.slice (some (⟨E5, 0, none⟩ : Addr)) 0 0).ownBlock = some g → E5 ≤ g := fun g hg => by simp only [Value.ownBlock, Option.some.injEq] at hg; omega
                    have hG9 : GsRow (M + 1) W9 (.slice (some ⟨E5, 0, none⟩) 0 0) [] := HG7.out.tk (by omega) hT9
                    have hLn : R1.length ≤ 1000 ∧ R2.length ≤ 1000 := by have := HRl1.out; have := HRl2.out; omega
                    obtain ⟨u1, w6, r1, gg1, gr1, ow1⟩ := gs_app (w := W9) (B := M + 1) (c := 1) (m := 1) (a := some ⟨W8.heap.size, 0, none⟩) (R2 := [q]) 83 hG9 rfl (fun h => by cases h) (fun ad had j x hx => by
                      cases had
                      have e : flatS [q] = [.int .i64 kk, .string nm, .slice au nu cu, .slice af nf cf, .int .i64 (R1.length : Int), .int .i64 (R2.length : Int)] := by rw [hq]; rfl
                      rw [e] at hx
                      have := (hF9 j x hx).1
                      simpa [addrO] using this) (fun x hx => by simp only [List.mem_singleton] at hx; subst hx; exact hn9) (fun x hx g hg => by simp only [List.mem_singleton] at hx; subst hx; exact hoq g (h2E g hg)) (fun x hx => by simp only [List.mem_singleton] at hx; subst hx; exact hlq) hM9 (by simp)
                    have hE9 : E5 < W9.heap.size := by have := hb9.size; omega
                    have hT6 : Tk [M] w2 w6 := hT92.grown gr1 (fun g hg => Nat.le_trans hs2 (h2E g hg))
                    have hu1 : ∀ g, u1.ownBlock = some g → E5 ≤ g := fun g hg => by
                      rcases ow1 g hg with h | h
                      · exact h2E g h
                      · omega
                    have gA6 := HGA.out.tk (by omega) hT6
                    obtain ⟨ya, yc, ye, yn, ycell, -⟩ := gA6.shape
                    simp only [Value.slice.injEq] at ye
                    obtain ⟨rfl, -, rfl⟩ := ye
                    obtain ⟨u2, w7, r2, gg2, gr2, ow2⟩ := gs_app (w := w6) (B := M + 1) (c := cx1) (R2 := R1) 83 gg1 rfl yn ycell gA6.each (fun x hx g hg => hfar x (List.mem_append.2 (.inl hx)) g (hu1 g hg)) gA6.low (by have := gr1.size; omega) (by simp; omega)
                    have hT7 : Tk [M] w2 w7 := hT6.grown gr2 (fun g hg => Nat.le_trans hs2 (hu1 g hg))
                    have hu2 : ∀ g, u2.ownBlock = some g → E5 ≤ g := fun g hg => by
                      rcases ow2 g hg with h | h
                      · exact hu1 g h
                      · have := gr1.size; omega
                    have gB7 := HGB.out.tk (by omega) hT7
                    obtain ⟨za, zc, ze, zn, zcell, -⟩ := gB7.shape
                    simp only [Value.slice.injEq] at ze
                    obtain ⟨rfl, -, rfl⟩ := ze
                    obtain ⟨u3, w8, r3, gg3, gr3, ow3⟩ := gs_app (w := w7) (B := M + 1) (c := cx2) (R2 := R2) 83 gg2 rfl zn zcell gB7.each (fun x hx g hg => hfar x (List.mem_append.2 (.inr hx)) g (hu2 g hg)) gB7.low (by have := gr1.size; have := gr2.size; omega) (by simp; omega)
                    have hT8' : Tk [M] w2 w8 := hT7.grown gr3 (fun g hg => Nat.le_trans hs2 (hu2 g hg))
                    obtain ⟨aa1, cc1, rfl, -⟩ := gg1.shape
                    obtain ⟨aa2, cc2, rfl, -⟩ := gg2.shape
                    obtain ⟨aa3, cc3, rfl, -⟩ := gg3.shape
                    obtain ⟨n1, hn1⟩ : ∃ n1, ([] ++ [q] : List SV).length = n1 := ⟨_, rfl⟩
                    obtain ⟨n2, hn2⟩ : ∃ n2, ([] ++ [q] ++ R1 : List SV).length = n2 := ⟨_, rfl⟩
                    obtain ⟨n3, hn3⟩ : ∃ n3, ([] ++ [q] ++ R1 ++ R2 : List SV).length = n3 := ⟨_, rfl⟩
                    rw [hn1] at r1 r2
                    rw [hn2] at r2 r3
                    rw [hn3] at r3 gg3
                    have HN3l : Hid (([q] ++ R1 ++ R2 : List SV).length = n3) := hn3
                    have HG3 : Hid (GsRow (M + 1) w8 (.slice aa3 n3 cc3) ([q] ++ R1 ++ R2)) := gg3
                    clear hn1 hn2 hn3
                    have HT8 : Hid (Tk [M] w2 w8) := hT8'
                    rw [hW9] at r1
                    have HW8 : Hid (W8 = _) := hW8
                    have HW9 : Hid (W9 = _) := hW9
                    have HR1 : Hid _ := r1
                    have HR2 : Hid _ := r2
                    have HR3 : Hid _ := r3
                    clear r1 r2 r3
                    clear hc hT8 hT9 hT92 hb9 hF9 hn9 hoq hlq hfar hM9 h2E hG9 hT6 hu1 gA6 yn ycell gg1 gg2 gg3 gr1 gr2 gr3 ow1 ow2 ow3 hT7 hu2 gB7 zn zcell hT8' hW8 hW9 hq hs8 hE9
                    go_upto_region 21 with fail
                    rw [← HW8.out]
                    clear x0 x1 x2 x3 x4 x5 z0 z1 z2 z3 z4 z5
                    go_wp2_with (at_builtin; first
                      | (refine wpList_appG (hgd := rfl) (s := .tmp 104) (x := .tmp 106) (t := 83) (ho := ?ho) (v := .slice (some ⟨E5, 0, none⟩) 0 0) (vx := .slice (some ⟨W8.heap.size, 0, none⟩) 1 1) (v' := .slice aa1 n1 cc1) (w' := w6) (hs := rfl) (hx := rfl) (hr := ?hr) (h := ?_); (case ho => rfl); (case hr => with_reducible exact HR1.out))
                      | (refine wpList_appG (hgd := rfl) (s := .tmp 107) (x := .tmp 108) (t := 83) (ho := ?ho) (v := .slice aa1 n1 cc1) (vx := .slice ax1 R1.length cx1) (v' := .slice aa2 n2 cc2) (w' := w7) (hs := rfl) (hx := rfl) (hr := ?hr) (h := ?_); (case ho => rfl); (case hr => with_reducible exact HR2.out))
                      | (refine wpList_appG (hgd := rfl) (s := .tmp 109) (x := .tmp 110) (t := 83) (ho := ?ho) (v := .slice aa2 n2 cc2) (vx := .slice ax2 R2.length cx2) (v' := .slice aa3 n3 cc3) (w' := w8) (hs := rfl) (hx := rfl) (hr := ?hr) (h := ?_); (case ho => rfl); (case hr => with_reducible exact HR3.out)))
                    go_meet
                    case rel => exact ⟨aa3, cc3, [q] ++ R1 ++ R2, by rw [HN3l.out], HG3.out, HHx.out, HT8.out⟩
            case rest =>
              obtain ⟨am, cm, Mo, rfl, hgm, hmm, hTm⟩ := hcut
              have hMl : Mo.length ≤ 1 + tn + es := by
                have h1 := moreS_len r LA LB
                rw [← HH.out, ← hmm] at h1
                simp only [List.length_map] at h1
                omega
              have hbrc : Below wr.heap.size wr wc := HBr2.out.trans (hTm.below (B := wr.heap.size) (fun g hg => by simp only [List.mem_singleton] at hg; rw [hg, HMr.out]; exact Nat.le_refl _) (by have := HMr.out; omega))
              have hRc := HR.out.below hbrc
              obtain ⟨ya, yc, ye, yn, ycell, -⟩ := hgm.shape
              simp only [Value.slice.injEq] at ye
              obtain ⟨rfl, -, rfl⟩ := ye
              have hrM := HMr.out
              have hso : ∀ x ∈ Mo, ∀ g, (Value.slice ao R.length co).ownBlock = some g → OutB x g := fun x hx g hg => by
                have hlt := (World.ownsRow.lt HR.out.row g hg).2
                have hl := hgm.low x hx g
                exact ⟨fun hp e => by have := hl.1 hp e; omega, fun hp e => by have := hl.2 hp e; omega⟩
              have hcw : Below w.heap.size w wc := hB.trans (hbrc.mono hB.size)
              obtain ⟨uo, w9, r9, gg9, gr9, ow9⟩ := gs_app (w := wc) (B := w.heap.size) (c := cm) (R2 := Mo) 83 hRc rfl yn ycell hgm.each hso (fun x hx g => ⟨fun hp e => by have := (hgm.low x hx g).1 hp e; have := hB.size; omega, fun hp e => by have := (hgm.low x hx g).2 hp e; have := hB.size; omega⟩) hcw.size (by omega)
              have hb9 : Below w.heap.size w w9 := hcw.grown gr9 hcw.size (fun g hg => (World.ownsRow.lt HR.out.row g hg).1)
              have hT9 : GsRow (M + 1) w9 (.slice am Mo.length cm) Mo := by
                have hk : ∀ g, g < wc.heap.size → M + 1 ≤ g → w9.heap[g]? = wc.heap[g]? := fun g h1 h2 => gr9.block g h1 (fun e => by
                  have := (World.ownsRow.lt HR.out.row g e.symm).2
                  omega)
                refine ⟨own_keep hgm.row fun g hg => ?_, fun q hq => ?_, hgm.out, hgm.low⟩
                · obtain ⟨a, b⟩ := World.ownsRow.lt hgm.row g hg
                  exact hk g b a
                · obtain ⟨n1, n2⟩ := hgm.each q hq
                  exact ⟨n1.keepO fun hp g hg => hk g (n1.lt hp g hg) ((hgm.low q hq g).1 hp hg), n2.keepO fun hp g hg => hk g (n2.lt hp g hg) ((hgm.low q hq g).2 hp hg)⟩
              obtain ⟨aa9, cc9, rfl, -⟩ := gg9.shape
              have HEn : Hid (Calls Tryz.prog 69 #[.slice am Mo.length cm] w9 fun e w' => e = .returned (.bool (endsB H)) ∧ Below w9.heap.size w9 w') := by
                have hst := hT9.stmts
                rw [hmm] at hst
                exact l5ends_any _ H w9 hst (by rw [HH.out]; exact moreS_fit r HLf.out.1 HLf.out.2) (by rw [← hmm, List.length_map]; omega)
              obtain ⟨n9, hn9⟩ : ∃ n9, (R ++ Mo).length = n9 := ⟨_, rfl⟩
              rw [hn9] at gg9 r9
              have hn9' : n9 ≤ k + (1 + tn + es) := by rw [← hn9, List.length_append]; omega
              have HN9 : Hid ((R ++ Mo).length = n9) := hn9
              clear hn9
              have HG9 : Hid (GsRow w.heap.size w9 (.slice aa9 n9 cc9) (R ++ Mo)) := gg9
              have HMm : Hid (Mo.map (·.s) = H) := hmm
              have HR9 : Hid _ := r9
              clear hgm hmm hTm hRc yn ycell hso hcw gr9 ow9 hT9 gg9 hbrc hrM
              go_wp2_with (at_builtin; refine wpList_appG rfl _ _ _ rfl _ _ (.slice aa9 n9 cc9) w9 rfl rfl HR9.out ?_)
              obtain ⟨eb, heb⟩ : ∃ eb, eb = endsB H := ⟨_, rfl⟩
              rw [← heb] at HEn
              have HEb : Hid (eb = endsB H) := heb
              clear heb HR9
              go_wp2_with fail
              refine HEn.out.mono ?_
              rintro e w10 ⟨rfl, hb10⟩
              have HG10 : Hid (GsRow w.heap.size w10 (.slice aa9 n9 cc9) (R ++ Mo)) := HG9.out.below hb10
              have hB10 : Below w.heap.size w w10 := hb9.trans (hb10.mono hb9.size)
              have HTf : Hid (tidyB rs = (R ++ Mo).map (·.s) ++ (if eb = true then [] else tidyB (rs.drop (k + 1 + tn + es)))) := by
                show _ = _
                rw [HTd.out, HEb.out, List.map_append, HMm.out]
                split
                · simp
                · simp
              clear hb10 HG9 hb9 HEn
              go_wp2_with fail
              go_roundw
              case rel => exact ⟨k + 1 + tn + es, R ++ Mo, eb, by omega, by go_num, rfl, HG10.out, by rw [HN9.out]; omega, HP6.out, HTf.out, hB10⟩
              case measure => simp [RowKit.intOf]; omega
    · obtain rfl : k = ss.length := by omega
      have HE : Hid (R.map (·.s) = tidyB rs) := by
        show _ = _
        rw [HRes.out, List.drop_of_length_le (by omega), tidyB_nil]
        simp
      go_wp2_with fail
      go_ret
      first | exact ⟨_, R, rfl, HR.out, HE.out, hB⟩ | exact ⟨_, rfl, R, HR.out, HE.out, hB⟩
theorem l5block_any : ∀ N, L5C N
  | 0 => fun ss _ _ _ h => absurd h (Nat.not_lt_zero _)
  | N + 1 => l5block_step N (l5block_any N)
end Go.Proofs.YtmddmgpijpjpbaaGreatDoor
