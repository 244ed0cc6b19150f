import Derived.Test.YtjnnepkoeloekaaGreatDoorPYF
import Derived.Test.YtjnnepkoeloekaaGreatDoorPVC
set_option linter.unusedSectionVars false
variable [Inhabited Go.Proofs.YtjnnepkoeloekaaGreatDoor.Pick]
namespace Go.Proofs.YtjnnepkoeloekaaGreatDoor
open Go.RowKit
set_option linter.unusedVariables false
set_option linter.unusedSimpArgs false

/-- The text of a global, of parameters, of a function, of a tree. -/
def globT (g : Gl) : List UInt8 := [105, 110, 116, 32] ++ g.name.data.toList ++ (if g.size = 0 then [] else [91] ++ (Lib.itoa g.size ++ [93])) ++ [59, 10]
def parT (ps : List ByteArray) (i : Nat) : List UInt8 := [105, 110, 116, 32] ++ (ps.getD i ⟨#[]⟩).data.toList
def funcT (f : Fu) : List UInt8 := [105, 110, 116, 32] ++ (f.name.data.toList ++ [40]) ++ commas (parT f.params) f.params.length ++ [41, 32, 123, 10] ++ linesT f.body ++ [125, 10]
def treeT (t : Tr) : List UInt8 := t.globals.flatMap globT ++ t.funcs.flatMap funcT

set_option maxRecDepth 100000 in
set_option maxHeartbeats 4000000 in
theorem glob_any (w0 : World) (P : Nat) (h0 : w0.heap.size ≤ P) (hPT : PTab w0) (g : Gl) (hg : 0 ≤ g.size ∧ g.size ≤ 4000) (l : List UInt8) (w : World) (hB : Below w0.heap.size w0 w) (hO : Out w P l) (hl : l.length + (globT g).length ≤ 900000000) :
    Calls Tryz.prog 21 #[.pointer (some ⟨P, 0, none⟩), .agg #[.string g.name, .int .i64 g.size]] w fun x w' => (∃ u, x = .returned u) ∧ Out w' P (l ++ globT g) ∧ Wr P w w' := by
  have HPT : Hid (PTab w0) := hPT
  have HB : Hid (Below w0.heap.size w0 w) := hB
  have HO : Hid (Out w P l) := hO
  have HG : Hid (0 ≤ g.size ∧ g.size ≤ 4000) := hg
  clear hPT hB hO hg
  obtain ⟨nm, z⟩ := g
  obtain ⟨nl, rfl⟩ : ∃ nl, nm = tx nl := ⟨_, (tx_back nm).symm⟩
  generalize hTx : globT ⟨tx nl, z⟩ = T at hl ⊢
  have HTx : Hid (globT ⟨tx nl, z⟩ = T) := hTx
  have HL : Hid (l.length + T.length ≤ 900000000) := hl
  clear hl hTx
  simp only at HG ⊢
  go_enter Tryz.func21, Tryz.ntmps21
  go_upto_region 1 with fail
  obtain ⟨W, hW⟩ : ∃ W, W = w.alloc (.cells #[.string (tx nl), .int .i64 z] 43) := ⟨_, rfl⟩
  have HOW : Hid (Out W P l) := by rw [hW]; exact (out_box HO.out _).1
  have HWW : Hid (Wr P w W) := by rw [hW]; exact (out_box HO.out _).2.1
  have HFW : Hid (Far P W w.heap.size) := by rw [hW]; exact (out_box HO.out _).2.2
  have c0 : W.cell? ⟨w.heap.size, 0, none⟩ = some (.string (tx nl)) := by rw [hW]; simp
  have c1 : W.cell? ⟨w.heap.size, 1, none⟩ = some (.int .i64 z) := by rw [hW]; simp
  rw [← hW]
  clear hW
  generalize w.heap.size = H at c0 c1 HFW ⊢
  have HC1 : Hid (W.cell? ⟨H, 1, none⟩ = some (.int .i64 z)) := c1
  clear c1
  by_cases hz : z = 0
  · subst hz
    have HQ : Hid (T = [105, 110, 116, 32] ++ nl ++ [59, 10]) := HTx.out.symm.trans (by simp [globT, tx])
    rw [HQ.out] at HL
    go_wp2_with fail
    refine (put2 P l [105, 110, 116, 32] nl W HOW.out (by have := HL.out; simp only [List.length_append] at *; omega)).mono ?_
    rintro x w1 ⟨⟨u, rfl⟩, hO1, hW1⟩
    have HO1 : Hid (Out w1 P (l ++ ([105, 110, 116, 32] ++ nl))) := hO1
    have HW1 : Hid (Wr P w w1) := HWW.out.trans hW1
    have c1 : w1.cell? ⟨H, 1, none⟩ = some (.int .i64 0) := HFW.out.cell hW1 HC1.out
    clear hO1 hW1 c0
    go_wp2_with fail
    refine (put1 P (l ++ ([105, 110, 116, 32] ++ nl)) [59, 10] w1 HO1.out (by have := HL.out; simp only [List.length_append] at *; omega)).mono ?_
    rintro x w2 ⟨⟨u2, rfl⟩, hO2, hW2⟩
    have HO2 : Hid (Out w2 P (l ++ ([105, 110, 116, 32] ++ nl) ++ [59, 10])) := hO2
    have HW2 : Hid (Wr P w w2) := HW1.out.trans hW2
    clear hO2 hW2 c1
    go_wp2_with fail
    go_end0
    refine ⟨⟨_, rfl⟩, ?_, HW2.out⟩
    rw [HQ.out]
    simpa only [List.append_assoc] using HO2.out
  · have HQ : Hid (T = [105, 110, 116, 32] ++ nl ++ ([91] ++ (Lib.itoa z ++ [93])) ++ [59, 10]) := HTx.out.symm.trans (by simp [globT, tx, hz])
    rw [HQ.out] at HL
    go_wp2_with fail
    refine (put2 P l [105, 110, 116, 32] nl W HOW.out (by have := HL.out; simp only [List.length_append] at *; omega)).mono ?_
    rintro x w1 ⟨⟨u, rfl⟩, hO1, hW1⟩
    have HO1 : Hid (Out w1 P (l ++ ([105, 110, 116, 32] ++ nl))) := hO1
    have HW1 : Hid (Wr P w w1) := HWW.out.trans hW1
    have c1 : w1.cell? ⟨H, 1, none⟩ = some (.int .i64 z) := HFW.out.cell hW1 HC1.out
    clear hO1 hW1 c0
    go_wp2_with fail
    refine (fmt_any z (by have := HG.out; omega) (by have := HG.out; omega) w1 (HPT.out.below (HB.out.trans ((HW1.out.toBelow HO.out).mono h0)))).mono ?_
    rintro x w3 ⟨rfl, hb3⟩
    have HO3 : Hid (Out w3 P (l ++ ([105, 110, 116, 32] ++ nl))) := HO1.out.below hb3
    have HW3 : Hid (Wr P w w3) := HW1.out.trans (Wr.below HO1.out.1 hb3)
    clear hb3 c1
    go_wp2_with fail
    refine (put3 P (l ++ ([105, 110, 116, 32] ++ nl)) [91] (Lib.itoa z) [93] w3 HO3.out (by have := HL.out; simp only [List.length_append] at *; omega)).mono ?_
    rintro x w4 ⟨⟨u4, rfl⟩, hO4, hW4⟩
    have HO4 : Hid (Out w4 P (l ++ ([105, 110, 116, 32] ++ nl) ++ ([91] ++ (Lib.itoa z ++ [93])))) := hO4
    have HW4 : Hid (Wr P w w4) := HW3.out.trans hW4
    clear hO4 hW4
    go_wp2_with fail
    refine (put1 P (l ++ ([105, 110, 116, 32] ++ nl) ++ ([91] ++ (Lib.itoa z ++ [93]))) [59, 10] w4 HO4.out (by have := HL.out; simp only [List.length_append] at *; omega)).mono ?_
    rintro x w2 ⟨⟨u2, rfl⟩, hO2, hW2⟩
    have HO2 : Hid (Out w2 P (l ++ ([105, 110, 116, 32] ++ nl) ++ ([91] ++ (Lib.itoa z ++ [93])) ++ [59, 10])) := hO2
    have HW2 : Hid (Wr P w w2) := HW4.out.trans hW2
    clear hO2 hW2
    go_wp2_with fail
    go_end0
    refine ⟨⟨_, rfl⟩, ?_, HW2.out⟩
    rw [HQ.out]
    simpa only [List.append_assoc] using HO2.out

theorem parT_at (ps : List ByteArray) (k : Nat) (h : k < ps.length) : parT ps k = [105, 110, 116, 32] ++ ps[k].data.toList := by
  simp [parT, List.getD, List.getElem?_eq_getElem h]

set_option maxRecDepth 100000 in
set_option maxHeartbeats 4000000 in
theorem func_any (w0 : World) (P : Nat) (h0 : w0.heap.size ≤ P) (f : Fu) (vp vb : Value) (hp : Strs w0 vp f.params) (hpl : f.params.length ≤ 1048576) (hb : LinesSpec w0 P vb (linesT f.body)) (l : List UInt8) (w : World) (hB : Below w0.heap.size w0 w) (hO : Out w P l) (hl : l.length + (funcT f).length ≤ 900000000) :
    Calls Tryz.prog 22 #[.pointer (some ⟨P, 0, none⟩), .agg #[.string f.name, vp, vb]] w fun x w' => (∃ u, x = .returned u) ∧ Out w' P (l ++ funcT f) ∧ Wr P w w' := by
  have HP : Hid (Strs w0 vp f.params) := hp
  have HBd : Hid (LinesSpec w0 P vb (linesT f.body)) := hb
  have HB : Hid (Below w0.heap.size w0 w) := hB
  have HO : Hid (Out w P l) := hO
  obtain ⟨ap, cp, rfl, hpc, hpm, -⟩ := hp
  clear hb hB hO
  obtain ⟨nm, ps, bd⟩ := f
  obtain ⟨nl, rfl⟩ : ∃ nl, nm = tx nl := ⟨_, (tx_back nm).symm⟩
  simp only at *
  generalize hTx : funcT ⟨tx nl, ps, bd⟩ = T at hl ⊢
  have HQ : Hid (T = [105, 110, 116, 32] ++ (nl ++ [40]) ++ commas (parT ps) ps.length ++ [41, 32, 123, 10] ++ linesT bd ++ [125, 10]) := hTx.symm.trans (by simp [funcT, tx])
  have HL : Hid (l.length + T.length ≤ 900000000) := hl
  rw [HQ.out] at HL
  clear hl hTx
  generalize linesT bd = tb at HBd HQ HL
  go_enter Tryz.func22, Tryz.ntmps22
  go_upto_region 1 with fail
  obtain ⟨W, hW⟩ : ∃ W, W = w.alloc (.cells #[.string (tx nl), .slice ap ps.length cp, vb] 48) := ⟨_, rfl⟩
  have HOW : Hid (Out W P l) := by rw [hW]; exact (out_box HO.out _).1
  have HWW : Hid (Wr P w W) := by rw [hW]; exact (out_box HO.out _).2.1
  have HFW : Hid (Far P W w.heap.size) := by rw [hW]; exact (out_box HO.out _).2.2
  have c0 : W.cell? ⟨w.heap.size, 0, none⟩ = some (.string (tx nl)) := by rw [hW]; simp
  have c1 : W.cell? ⟨w.heap.size, 1, none⟩ = some (.slice ap ps.length cp) := by rw [hW]; simp
  have c2 : W.cell? ⟨w.heap.size, 2, none⟩ = some vb := by rw [hW]; simp
  rw [← hW]
  clear hW
  generalize w.heap.size = H at c0 c1 c2 HFW ⊢
  have HC1 : Hid (W.cell? ⟨H, 1, none⟩ = some (.slice ap ps.length cp)) := c1
  have HC2 : Hid (W.cell? ⟨H, 2, none⟩ = some vb) := c2
  clear c1 c2
  go_wp2_with fail
  refine (put3 P l [105, 110, 116, 32] nl [40] W HOW.out (by have := HL.out; simp only [List.length_append] at *; omega)).mono ?_
  rintro x w1 ⟨⟨u, rfl⟩, hO1, hW1⟩
  have HO1 : Hid (Out w1 P (l ++ ([105, 110, 116, 32] ++ (nl ++ [40])))) := hO1
  have HW1 : Hid (Wr P W w1) := hW1
  have c1 : w1.cell? ⟨H, 1, none⟩ = some (.slice ap ps.length cp) := HFW.out.cell hW1 HC1.out
  clear hO1 hW1 c0
  generalize [105, 110, 116, 32] ++ (nl ++ [40]) = hd at HO1 HQ HL
  go_wp2_with fail
  go_loopw [14] (fun ix wr => ∃ k : Nat, k ≤ ps.length ∧ ix = .int .i64 k ∧ Out wr P (l ++ hd ++ commas (parT ps) k) ∧ Wr P W wr) (fun ix _ => ps.length - (intOf ix).toNat)
  case atStart => exact ⟨0, Nat.zero_le _, rfl, by simpa only [commas, List.append_nil] using HO1.out, HW1.out⟩
  case round =>
    obtain ⟨k, hk, rfl, hOk, hWk⟩ := hrel
    have HOk : Hid (Out wr P (l ++ hd ++ commas (parT ps) k)) := hOk
    have HWk : Hid (Wr P W wr) := hWk
    have HBk : Hid (Below w0.heap.size w0 wr) := HB.out.trans (((HWW.out.trans hWk).toBelow HO.out).mono h0)
    clear hOk hWk c1
    by_cases hkA : k < ps.length
    · have HCl : Hid ((commas (parT ps) (k + 1)).length ≤ (commas (parT ps) ps.length).length) := commas_mono _ (k + 1) _ hkA
      have HPa : Hid (parT ps k = [105, 110, 116, 32] ++ ps[k].data.toList) := parT_at ps k hkA
      obtain ⟨ap', cp', he, _, _, hu3⟩ := HP.out.below HBk.out
      simp only [Value.slice.injEq, true_and] at he
      obtain ⟨rfl, rfl⟩ := he
      obtain ⟨bp, op, rfl, hpc⟩ := hu3 (by omega)
      have hv := hpc k hkA
      clear hu3 hpc
      generalize hpk : ps[k] = pk at hv HPa
      obtain ⟨pl, rfl⟩ : ∃ pl, pk = tx pl := ⟨_, (tx_back pk).symm⟩
      have HPb : Hid (parT ps k = [105, 110, 116, 32] ++ pl) := HPa.out
      clear HPa hpk
      by_cases hk0 : k = 0
      · subst hk0
        rw [Nat.add_zero] at hv
        have hkA' : (0 : Int) < (ps.length : Int) := by omega
        go_wp2_with fail
        refine (put2 P (l ++ hd ++ commas (parT ps) 0) [105, 110, 116, 32] pl wr HOk.out (by have := HL.out; have := HCl.out; simp only [commas, HPb.out, List.length_append] at *; omega)).mono ?_
        rintro x w2 ⟨⟨u2, rfl⟩, hO2, hW2⟩
        have HO2 : Hid (Out w2 P (l ++ hd ++ commas (parT ps) (0 + 1))) := by
          show Out _ _ _
          simpa [commas, HPb.out] using hO2
        have HW2 : Hid (Wr P W w2) := HWk.out.trans hW2
        clear hO2 hW2
        go_wp2_with fail
        go_roundw
        case rel => exact ⟨0 + 1, by omega, by go_num, HO2.out, HW2.out⟩
        case measure => simp [intOf]; omega
      · have hkp : (0 : Int) < (k : Int) := by omega
        go_wp2_with fail
        refine (put1 P (l ++ hd ++ commas (parT ps) k) [44, 32] wr HOk.out (by have := HL.out; have := HCl.out; simp only [commas, HPb.out, List.length_append, if_neg hk0] at *; omega)).mono ?_
        rintro x w3 ⟨⟨u3, rfl⟩, hO3, hW3⟩
        have HO3 : Hid (Out w3 P (l ++ hd ++ commas (parT ps) k ++ [44, 32])) := hO3
        have HW3 : Hid (Wr P W w3) := HWk.out.trans hW3
        clear hO3 hW3 hv
        go_wp2_with fail
        refine (put2 P (l ++ hd ++ commas (parT ps) k ++ [44, 32]) [105, 110, 116, 32] pl w3 HO3.out (by have := HL.out; have := HCl.out; simp only [commas, HPb.out, List.length_append, if_neg hk0] at *; omega)).mono ?_
        rintro x w2 ⟨⟨u2, rfl⟩, hO2, hW2⟩
        have HO2 : Hid (Out w2 P (l ++ hd ++ commas (parT ps) (k + 1))) := by
          show Out _ _ _
          simpa only [commas, if_neg hk0, HPb.out, List.append_assoc] using hO2
        have HW2 : Hid (Wr P W w2) := HW3.out.trans hW2
        clear hO2 hW2
        go_wp2_with fail
        go_roundw
        case rel => exact ⟨k + 1, by omega, by go_num, HO2.out, HW2.out⟩
        case measure => simp [intOf]; omega
    · obtain rfl : k = ps.length := by omega
      generalize commas (parT ps) ps.length = tc at HOk HQ HL
      go_wp2_with fail
      refine (put1 P (l ++ hd ++ tc) [41, 32, 123, 10] wr HOk.out (by have := HL.out; simp only [List.length_append] at *; omega)).mono ?_
      rintro x w3 ⟨⟨u3, rfl⟩, hO3, hW3⟩
      have HO3 : Hid (Out w3 P (l ++ hd ++ tc ++ [41, 32, 123, 10])) := hO3
      have HW3 : Hid (Wr P W w3) := HWk.out.trans hW3
      have c2 : w3.cell? ⟨H, 2, none⟩ = some vb := HFW.out.cell HW3.out HC2.out
      clear hO3 hW3
      go_wp2_with fail
      refine (HBd.out (l ++ hd ++ tc ++ [41, 32, 123, 10]) w3 (HB.out.trans (((HWW.out.trans HW3.out).toBelow HO.out).mono h0)) HO3.out (by have := HL.out; simp only [List.length_append] at *; omega)).mono ?_
      rintro x w4 ⟨⟨u4, rfl⟩, hO4, hW4⟩
      have HO4 : Hid (Out w4 P (l ++ hd ++ tc ++ [41, 32, 123, 10] ++ tb)) := hO4
      have HW4 : Hid (Wr P W w4) := HW3.out.trans hW4
      clear hO4 hW4 c2
      go_wp2_with fail
      refine (put1 P (l ++ hd ++ tc ++ [41, 32, 123, 10] ++ tb) [125, 10] w4 HO4.out (by have := HL.out; simp only [List.length_append] at *; omega)).mono ?_
      rintro x w5 ⟨⟨u5, rfl⟩, hO5, hW5⟩
      have HO5 : Hid (Out w5 P (l ++ hd ++ tc ++ [41, 32, 123, 10] ++ tb ++ [125, 10])) := hO5
      have HW5 : Hid (Wr P w w5) := HWW.out.trans (HW4.out.trans hW5)
      clear hO5 hW5
      go_wp2_with fail
      go_end0
      refine ⟨⟨_, rfl⟩, ?_, HW5.out⟩
      rw [HQ.out]
      simpa only [List.append_assoc] using HO5.out

end Go.Proofs.YtjnnepkoeloekaaGreatDoor

namespace Go.Proofs.YtjnnepkoeloekaaGreatDoor
open Go.RowKit
set_option linter.unusedVariables false
set_option linter.unusedSimpArgs false

def prT (t : Tr) : List UInt8 := if treeB t = true then treeT t else []
theorem flat_len {α : Type} (f : α → List UInt8) (c : Nat) (l : List α) (h : ∀ x ∈ l, (f x).length ≤ c) (k : Nat) : ((l.take k).flatMap f).length ≤ c * k := by
  induction k generalizing l with
  | zero => simp
  | succ k ih =>
    cases l with
    | nil => simp
    | cons x r =>
      have h1 := h x List.mem_cons_self
      have h2 := ih r (fun y hy => h y (List.mem_cons_of_mem _ hy))
      simp only [List.take_succ_cons, List.flatMap_cons, List.length_append]
      rw [Nat.mul_succ]
      omega
theorem flatm_step {α : Type} (f : α → List UInt8) (l : List α) (k : Nat) (h : k < l.length) : (l.take (k + 1)).flatMap f = (l.take k).flatMap f ++ f l[k] := by
  rw [take_succ l k h, List.flatMap_append]; simp
theorem globB_parts {g : Gl} (h : globB g = true) : nameB g.name = true ∧ 0 ≤ g.size ∧ g.size ≤ 4000 := by
  simp only [globB, Bool.and_eq_true, decide_eq_true_eq] at h
  exact ⟨h.1, h.2⟩
theorem globT_len {g : Gl} (h : globB g = true) : (globT g).length ≤ 50 := by
  obtain ⟨h1, h2, h3⟩ := globB_parts h
  have := name_le h1
  have hi := itoa_len g.size (by omega) (by omega)
  unfold globT
  rw [tx_len] at this
  split <;> (simp; omega)
structure FuOk (f : Fu) : Prop where
  name : nameB f.name = true
  np : f.params.length ≤ 6
  pars : ∀ p ∈ f.params, nameB p = true
  nb : f.body.length ≤ 500
  good : GoodL f.body
  sum : nodeSum f.body ≤ 2000
theorem funcB_parts {f : Fu} (h : funcB f = true) : FuOk f := by
  simp only [funcB, Bool.and_eq_true, decide_eq_true_eq, stmtsB, List.all_eq_true] at h
  obtain ⟨h1, h2, h3, h4, ⟨h5, h6⟩, h7⟩ := h
  exact ⟨h1, h2, h4, h3, ⟨h6, h7⟩, h5⟩
theorem commas_le (S : Nat → List UInt8) (c : Nat) (k : Nat) (h : ∀ i, i < k → (S i).length ≤ c) : (commas S k).length ≤ (c + 2) * k := by
  induction k with
  | zero => simp [commas]
  | succ k ih =>
    have h1 := ih (fun i hi => h i (by omega))
    have h2 := h k (by omega)
    have h3 : (if k = 0 then ([] : List UInt8) else [44, 32]).length ≤ 2 := by split <;> simp
    simp only [commas, List.length_append]
    rw [Nat.mul_succ]
    omega
theorem funcT_len {f : Fu} (h : funcB f = true) : (funcT f).length ≤ 120000 := by
  have g := funcB_parts h
  have h1 := name_le g.name
  have h2 := lines_len f.body.length f.body (Nat.le_refl _) g.good
  have h3 := g.nb
  have h4 := g.sum
  have h5 := commas_le (parT f.params) 24 f.params.length (fun i hi => by
    rw [parT_at f.params i hi]
    have := name_le (g.pars f.params[i] (List.getElem_mem hi))
    simp only [List.length_append, List.length_cons, List.length_nil]
    omega)
  have h6 := g.np
  unfold funcT
  simp only [List.length_append, List.length_cons, List.length_nil]
  omega
theorem treeB_parts {t : Tr} (h : treeB t = true) : t.globals.length ≤ 50 ∧ t.funcs.length ≤ 50 ∧ (∀ g ∈ t.globals, globB g = true) ∧ ∀ f ∈ t.funcs, funcB f = true := by
  simp only [treeB, Bool.and_eq_true, decide_eq_true_eq, List.all_eq_true] at h
  exact ⟨h.1, h.2.1, h.2.2.1, h.2.2.2⟩
theorem owns_base {w : World} {b b' : Nat} {e : TypeId} {s : Nat} {v : Value} {n : Nat} {xs : List Value} (h : w.ownsRow b e s v n xs) (hb : b' ≤ b) : w.ownsRow b' e s v n xs := by
  obtain ⟨g1, g2⟩ := h
  refine ⟨g1, ?_⟩
  rcases g2 with g2 | ⟨g, cap, cur, rfl, g3, g4, g5⟩
  · exact .inl g2
  · exact .inr ⟨g, cap, cur, rfl, by omega, g4, g5⟩
theorem two_box {w w1 : World} {t u : TypeId} {x y : Value} (h : Below ((w.alloc (.cells #[x, y] t)).alloc (.cells #[.slice none 0 0] u)).heap.size ((w.alloc (.cells #[x, y] t)).alloc (.cells #[.slice none 0 0] u)) w1) :
    Below w.heap.size w w1 ∧ Out w1 (w.heap.size + 1) [] ∧ Far (w.heap.size + 1) w1 w.heap.size ∧ w1.cell? ⟨w.heap.size, 0, none⟩ = some x ∧ w1.cell? ⟨w.heap.size, 1, none⟩ = some y := by
  have hs := h.size
  simp only [World.size_alloc] at hs
  have hb : Below w.heap.size w w1 := (((Below.refl _ _).alloc (Nat.le_refl _) _).alloc (by simp) _).trans (h.mono (by simp; omega))
  have c0 : w1.cell? ⟨w.heap.size + 1, 0, none⟩ = some (.slice none 0 0) := by
    rw [h.cell (by simp)]
    have : (w.alloc (.cells #[x, y] t)).heap.size = w.heap.size + 1 := by simp
    rw [← this]
    simp
  have f0 : w1.frozen? ⟨w.heap.size + 1, 0, none⟩ = false := by
    rw [h.frozen (by simp)]
    have : (w.alloc (.cells #[x, y] t)).heap.size = w.heap.size + 1 := by simp
    rw [← this]
    simp
  refine ⟨hb, ⟨by omega, f0, _, c0, World.ownsRow_nil _ _ _ _⟩, ⟨by omega, by omega, ?_⟩, ?_, ?_⟩
  · unfold rb; rw [c0]; simp [Value.ownBlock]
  · rw [h.cell (by simp; omega)]; simp
  · rw [h.cell (by simp; omega)]; simp

set_option maxRecDepth 100000 in
set_option maxHeartbeats 4000000 in
theorem print_any (t : Tr) (vg vf : Value) (w : World) (hT : Tab w) (hBT : BTab w) (hPT : PTab w) (ht : smallT t) (hg : Globs w vg t.globals) (hf : Funcs w vf t.funcs) :
    Calls Tryz.prog 7 #[.agg #[vg, vf]] w fun e w' => ∃ v, e = .returned v ∧ w'.ownsRow w.heap.size 5 1 v (prT t).length (Lib.strCells (tx (prT t))) ∧ Below w.heap.size w w' := by
  have HT : Hid (Tab w) := hT
  have HBT : Hid (BTab w) := hBT
  have HPT : Hid (PTab w) := hPT
  have HS : Hid (smallT t) := ht
  have HG : Hid (Globs w vg t.globals) := hg
  have HF : Hid (Funcs w vf t.funcs) := hf
  obtain ⟨ag, cg, rfl, hcg, hcgm, -⟩ := hg
  obtain ⟨af, cf, rfl, hcf, hcfm, -⟩ := hf
  have hgl : t.globals.length ≤ 1048576 := ht.1
  have hfl : t.funcs.length ≤ 1048576 := ht.2.1
  clear hT hBT hPT ht
  go_enter Tryz.func7, Tryz.ntmps7
  go_wp2_with fail
  have hbA : ∀ o1 o2, Below w.heap.size w ((w.alloc o1).alloc o2) := fun o1 o2 => ((Below.refl _ _).alloc (Nat.le_refl _) o1).alloc (by simp) o2
  refine (vtree_any t _ _ _ (HT.out.below HT.out.size (hbA _ _)) HS.out (HG.out.below (hbA _ _)) (HF.out.below (hbA _ _))).mono ?_
  rintro e w1 ⟨rfl, hb1⟩
  obtain ⟨hbw, hO1, hFar, x0, x1⟩ := two_box hb1
  have HBw : Hid (Below w.heap.size w w1) := hbw
  have HO1 : Hid (Out w1 (w.heap.size + 1) []) := hO1
  have HFar : Hid (Far (w.heap.size + 1) w1 w.heap.size) := hFar
  have HX1 : Hid (w1.cell? ⟨w.heap.size, 1, none⟩ = some (.slice af t.funcs.length cf)) := x1
  clear hb1 hbA hbw hO1 hFar
  have hP : w.heap.size ≤ w.heap.size + 1 := by omega
  cases htr : treeB t
  · have HE : Hid (prT t = []) := by show _ = _; rw [prT, htr]; rfl
    obtain ⟨_, _, v, hv, hown⟩ := HO1.out
    have HV : Hid (w1.ownsRow (w.heap.size + 1 + 1) 5 1 v 0 (Lib.strCells (tx []))) := hown
    clear hown x0 x1
    go_wp2_with fail
    refine bodyPost_ret (v := v) (by simp [results, Tryz.results7, go_sem]) rfl ⟨v, rfl, ?_, HBw.out⟩
    rw [HE.out]
    exact owns_base HV.out (by omega)
  · obtain ⟨hg50, hf50, hgB, hfB⟩ := treeB_parts htr
    have HE : Hid (prT t = t.globals.flatMap globT ++ t.funcs.flatMap funcT) := by show _ = _; rw [prT, if_pos htr]; rfl
    have HGB : Hid (∀ g ∈ t.globals, globB g = true) := hgB
    have HFB : Hid (∀ f ∈ t.funcs, funcB f = true) := hfB
    have HGl : Hid (∀ k, k ≤ 50 → ((t.globals.take k).flatMap globT).length ≤ 2500) := fun k hk => by
      have := flat_len globT 50 t.globals (fun g hg => globT_len (hgB g hg)) k
      omega
    have HFl : Hid (∀ k, k ≤ 50 → ((t.funcs.take k).flatMap funcT).length ≤ 6000000) := fun k hk => by
      have := flat_len funcT 120000 t.funcs (fun f hf => funcT_len (hfB f hf)) k
      omega
    clear hgB hfB htr
    generalize hPn : w.heap.size + 1 = P at *
    go_wp2_with fail
    go_loopw [16] (fun ix wr => ∃ k : Nat, k ≤ t.globals.length ∧ ix = .int .i64 k ∧ Out wr P ((t.globals.take k).flatMap globT) ∧ Wr P w1 wr) (fun ix _ => t.globals.length - (intOf ix).toNat)
    case atStart => exact ⟨0, Nat.zero_le _, rfl, by simpa using HO1.out, Wr.refl _ _⟩
    case round =>
      obtain ⟨k, hk, rfl, hOk, hWk⟩ := hrel
      have HOk : Hid (Out wr P ((t.globals.take k).flatMap globT)) := hOk
      have HWk : Hid (Wr P w1 wr) := hWk
      have HBk : Hid (Below w.heap.size w wr) := HBw.out.trans ((hWk.toBelow HO1.out).mono hP)
      clear hOk hWk x0 x1
      by_cases hkA : k < t.globals.length
      · have HGk : Hid (globB t.globals[k] = true) := HGB.out _ (List.getElem_mem hkA)
        have HSt : Hid ((t.globals.take (k + 1)).flatMap globT = (t.globals.take k).flatMap globT ++ globT t.globals[k]) := flatm_step globT t.globals k hkA
        obtain ⟨ag', cg', he, _, _, hu3⟩ := HG.out.below HBk.out
        simp only [Value.slice.injEq, true_and] at he
        obtain ⟨rfl, rfl⟩ := he
        obtain ⟨bg, og, rfl, hgc⟩ := hu3 (by omega)
        obtain ⟨y0, y1⟩ := hgc k hkA
        clear hu3 hgc
        generalize hgk : t.globals[k] = g at y0 y1 HGk HSt
        clear hgk
        go_wp2_with fail
        refine (glob_any w P hP HPT.out g (globB_parts HGk.out).2 ((t.globals.take k).flatMap globT) _ (HBk.out.trans (((Below.refl _ _).alloc (Nat.le_refl _) _).mono HBk.out.size)) (out_box HOk.out _).1 (by have h1 := HGl.out k (by omega); have h2 := globT_len HGk.out; omega)).mono ?_
        rintro x w2 ⟨⟨u2, rfl⟩, hO2, hW2⟩
        have HO2 : Hid (Out w2 P ((t.globals.take (k + 1)).flatMap globT)) := by show Out _ _ _; rw [HSt.out]; exact hO2
        have HW2 : Hid (Wr P w1 w2) := HWk.out.trans ((out_box HOk.out _).2.1.trans hW2)
        clear hO2 hW2
        go_wp2_with fail
        go_roundw
        case rel => exact ⟨k + 1, by omega, by go_num, HO2.out, HW2.out⟩
        case measure => simp [intOf]; omega
      · obtain rfl : k = t.globals.length := by omega
        have HOg : Hid (Out wr P (t.globals.flatMap globT)) := by have := HOk.out; rw [List.take_length] at this; exact this
        have HGl' : Hid ((t.globals.flatMap globT).length ≤ 2500) := by have := HGl.out _ hg50; rw [List.take_length] at this; exact this
        generalize t.globals.flatMap globT = gt at HOg HGl' HE
        have x1 : wr.cell? ⟨w.heap.size, 1, none⟩ = some (.slice af t.funcs.length cf) := HFar.out.cell HWk.out HX1.out
        clear HOk HGB HGl
        go_wp2_with fail
        go_loopw [26] (fun ix wr => ∃ k : Nat, k ≤ t.funcs.length ∧ ix = .int .i64 k ∧ Out wr P (gt ++ (t.funcs.take k).flatMap funcT) ∧ Wr P w1 wr) (fun ix _ => t.funcs.length - (intOf ix).toNat)
        case atStart => exact ⟨0, Nat.zero_le _, rfl, by simpa using HOg.out, HWk.out⟩
        case round =>
          obtain ⟨k, hk, rfl, hOk, hWk⟩ := hrel
          have HOk : Hid (Out wr P (gt ++ (t.funcs.take k).flatMap funcT)) := hOk
          have HWk : Hid (Wr P w1 wr) := hWk
          have HBk : Hid (Below w.heap.size w wr) := HBw.out.trans ((hWk.toBelow HO1.out).mono hP)
          clear hOk hWk x1
          by_cases hkA : k < t.funcs.length
          · have HFk : Hid (funcB t.funcs[k] = true) := HFB.out _ (List.getElem_mem hkA)
            have HSm : Hid (smallF t.funcs[k]) := HS.out.2.2 _ (List.getElem_mem hkA)
            have HSt : Hid ((t.funcs.take (k + 1)).flatMap funcT = (t.funcs.take k).flatMap funcT ++ funcT t.funcs[k]) := flatm_step funcT t.funcs k hkA
            obtain ⟨af0, cf0, he0, _, _, hu0⟩ := HF.out
            simp only [Value.slice.injEq, true_and] at he0
            obtain ⟨rfl, rfl⟩ := he0
            obtain ⟨bg, og, rfl, hgc⟩ := hu0 (by omega)
            obtain ⟨vp, vb, ⟨y0, y1, y2⟩, hp, hb⟩ := hgc k hkA
            have hlt := World.block_lt_of_cell? _ _ y0
            have z0 := (HBk.out.cell (p := ⟨bg, og + k * 3, none⟩) hlt).trans y0
            have z1 := (HBk.out.cell (p := ⟨bg, og + k * 3 + 1, none⟩) hlt).trans y1
            have z2 := (HBk.out.cell (p := ⟨bg, og + k * 3 + 2, none⟩) hlt).trans y2
            clear hu0 hgc y0 y1 y2 hlt
            generalize hgk : t.funcs[k] = f at z0 z1 z2 HFk HSt HSm hp hb
            clear hgk
            have HP : Hid (Strs w vp f.params) := hp
            have hok : OkL f.body := ⟨(funcB_parts HFk.out).good, HSm.out.2.2⟩
            have hLs : LinesSpec w P vb (linesT f.body) := lines_any w P hP HT.out HBT.out HPT.out f.body.length vb f.body (Nat.le_refl _) HSm.out.2.1 hok hb
            have HLs : Hid (LinesSpec w P vb (linesT f.body)) := hLs
            obtain ⟨ap, cp, rfl, -⟩ := hp
            obtain ⟨ab, cb, rfl, -⟩ := hb
            clear hLs hok
            go_wp2_with fail
            refine (func_any w P hP f _ _ HP.out HSm.out.1 HLs.out (gt ++ (t.funcs.take k).flatMap funcT) _ (HBk.out.trans (((Below.refl _ _).alloc (Nat.le_refl _) _).mono HBk.out.size)) (out_box HOk.out _).1 (by have h1 := HFl.out k (by omega); have h2 := funcT_len HFk.out; have h3 := HGl'.out; simp only [List.length_append]; omega)).mono ?_
            rintro x w2 ⟨⟨u2, rfl⟩, hO2, hW2⟩
            have HO2 : Hid (Out w2 P (gt ++ (t.funcs.take (k + 1)).flatMap funcT)) := by show Out _ _ _; rw [HSt.out, ← List.append_assoc]; exact hO2
            have HW2 : Hid (Wr P w1 w2) := HWk.out.trans ((out_box HOk.out _).2.1.trans hW2)
            clear hO2 hW2
            go_wp2_with fail
            go_roundw
            case rel => exact ⟨k + 1, by omega, by go_num, HO2.out, HW2.out⟩
            case measure => simp [intOf]; omega
          · obtain rfl : k = t.funcs.length := by omega
            have hOf := HOk.out
            rw [List.take_length, ← HE.out] at hOf
            obtain ⟨_, _, v, hv, hown⟩ := hOf
            have HV : Hid (wr.ownsRow (P + 1) 5 1 v (prT t).length (Lib.strCells (tx (prT t)))) := hown
            clear hown
            go_wp2_with fail
            refine bodyPost_ret (v := v) (by simp [results, Tryz.results7, go_sem]) rfl ⟨v, rfl, owns_base HV.out (by omega), HBk.out⟩

end Go.Proofs.YtjnnepkoeloekaaGreatDoor
