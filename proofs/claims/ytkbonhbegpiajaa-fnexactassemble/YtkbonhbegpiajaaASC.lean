import Derived.Test.YtkbonhbegpiajaaASB
namespace Go.Proofs.Ytkbonhbegpiajaa
open Go.RowKit
set_option linter.unusedVariables false
set_option linter.unusedSimpArgs false
set_option linter.unusedSectionVars false
variable [Inhabited Pick]

theorem info_u32 : (Try.prog.info? 62).map (fun i => (i.zero, i.size, i.bytes)) = some (some (.int .u32 0), 1, 4) := by kernel_rfl
/-- A row of words of one's own. -/
def URow (B : Nat) (w : World) (v : Value) (us : List Int) : Prop := w.ownsRow B 62 1 v us.length (us.map (Value.int .u32))
theorem URow.shape {B : Nat} {w : World} {v : Value} {us : List Int} (h : URow B w v us) : ∃ a c, v = .slice a us.length c := by
  rcases h.2 with ⟨rfl, hz⟩ | ⟨g, cap, cur, rfl, _⟩
  · exact ⟨none, 0, by rw [hz]⟩
  · exact ⟨_, cap, rfl⟩
theorem URow.below {B : Nat} {w w' : World} {v : Value} {us : List Int} (h : URow B w v us) (hb : Below w.heap.size w w') : URow B w' v us := by
  obtain ⟨g1, g2⟩ := h
  refine ⟨g1, ?_⟩
  rcases g2 with g2 | ⟨g, cap, cur, rfl, g3, g4, g5⟩
  · exact .inl g2
  · refine .inr ⟨g, cap, cur, rfl, g3, ?_, g5⟩
    rw [hb.block g (Array.getElem?_eq_some_iff.1 g4).1]
    exact g4
theorem URow.base {B B' : Nat} {w : World} {v : Value} {us : List Int} (h : URow B w v us) (hb : B' ≤ B) : URow B' w v us := by
  obtain ⟨g1, g2⟩ := h
  refine ⟨g1, ?_⟩
  rcases g2 with g2 | ⟨g, cap, cur, rfl, g3, g4⟩
  · exact .inl g2
  · exact .inr ⟨g, cap, cur, rfl, Nat.le_trans hb g3, g4⟩
theorem urow_lit (W : World) (B : Nat) (hB : B ≤ W.heap.size) : URow B (W.alloc (.cells #[] 62)) (.slice (some ⟨W.heap.size, 0, none⟩) 0 0) [] := World.ownsRow_lit W #[] 0 hB (by decide) rfl
theorem run_appU {w : World} (base : Nat) (ty : TypeId) (v : Value) (xs : List Int) (hown : URow base w v xs) (x : Value) (us : List Int) (hx : USrc w x us) (hm : xs.length + us.length ≤ 10000000) (hbase : base ≤ w.heap.size) :
    ∃ v' w', (Builtin.append_ #[24, 24] ty #[v, x]).run Try.prog w = .ok v' w' ∧ URow base w' v' (xs ++ us) ∧ w.grownBy w' v.ownBlock := by
  obtain ⟨i0, hi, hz0, hz1, hz2⟩ := info_parts info_u32
  obtain ⟨a, cap, rfl, h2, h3⟩ := hx
  cases a with
  | none =>
    obtain rfl := h2 rfl
    have hr : (Builtin.append_ #[24, 24] ty #[v, .slice none ([] : List Int).length cap]).run Try.prog w = .ok v w := by
      rcases hown.2 with ⟨rfl, hn⟩ | ⟨g, cap', cur, rfl, _, _, hnc, _⟩
      · simp [Builtin.append_, run_underlying Try.underlying24, sizeOf, typeInfo, hi, Builtin.lenOf, Builtin.firstCells]
      · simp [Builtin.append_, run_underlying Try.underlying24, sizeOf, typeInfo, hi, Builtin.lenOf, Builtin.firstCells, hnc, storeCells]
    exact ⟨v, w, hr, by simpa using hown, ⟨rfl, rfl, rfl, Nat.le_refl _, fun _ _ _ => rfl⟩⟩
  | some ad =>
    obtain ⟨v', w', r1, r2, r3, r4⟩ := app_freshG (P := Try.prog) (w := w) base 24 ty 62 i0 _ 1 4 Try.underlying24 hi hz0 hz1 hz2 rfl (by decide) v xs.length (xs.map (Value.int .u32)) hown ad us.length cap (us.map (Value.int .u32)) (by simp) (h3 ad rfl) (by intro u hu; simp at hu; obtain ⟨y, _, rfl⟩ := hu; rfl) hm (by decide) hbase
    refine ⟨v', w', r1, ?_, r3⟩
    unfold URow
    rw [List.length_append, List.map_append]
    exact r2
theorem wpList_appU {w : World} {ops : Array Oper} {rest : List Oper} {o : Oper} {a : Act} {Q : Exit → Act → World → Prop} (hgd : o.guard = none) (s x : Operand)
    (ho : o.op = .call { callee := .builtin .append, args := #[s, x], argTypes := #[24, 24] })
    (base : Nat) (v : Value) (xs : List Int) (hs : a.eval s = v) (hown : URow base w v xs) (xv : Value) (us : List Int) (hxv : a.eval x = xv) (hx : USrc w xv us)
    (hm : xs.length + us.length ≤ 10000000) (hbase : base ≤ w.heap.size)
    (h : ∀ v' w', URow base w' v' (xs ++ us) → w.grownBy w' v.ownBlock → wpList Try.prog ops Q rest (a.put o.dst v') w') : wpList Try.prog ops Q (o :: rest) a w := by
  refine wpList_plain hgd fun K hK => ?_
  obtain ⟨v', w', hr, h2, h3⟩ := run_appU (w := w) base o.type v xs hown xv us hx hm hbase
  unfold Oper.wp execOp
  simp only [ho, resolve, invoke, builtin, Sem.run_bind, Sem.run_pure, Result.andThen_ok, List.map_toArray, List.map_cons, List.map_nil, hs, hxv, hr]
  exact hK _ _ (h v' w' h2 h3)
/-- The code of the first pieces. -/
def codeK (its : List It) (lg : List Bool) : Nat → List Int
  | 0 => []
  | k + 1 => codeK its lg k ++ wds (its.getD k it0) (farN its lg k) (lg.getD k false)
theorem codeK_len (its : List It) (lg : List Bool) (k : Nat) : (codeK its lg k).length ≤ 2 * k := by
  induction k with
  | zero => simp [codeK]
  | succ k ih =>
    have := wds_len (its.getD k it0) (farN its lg k) (lg.getD k false)
    simp only [codeK, List.length_append]
    omega
theorem good_op {x : It} (h : goodI x = true) (h3 : x.kind = 3) : 4 ≤ x.ins.op ∧ x.ins.op ≤ 9 := by
  unfold goodI at h
  by_cases hl : x.label < 0
  · rw [if_pos hl] at h; cases h
  · rw [if_neg hl, if_neg (by omega), if_pos h3] at h
    simp only [Bool.and_eq_true, decide_eq_true_eq] at h
    exact h.1.1
/-- What Assemble answers. -/
def AsmR (its : List It) (r : List Int) : Prop :=
  (its.length ≤ 20000 ∧ goodAll its ∧ Linked its ∧ ∃ lg, Fin its lg ∧ ((plN its lg its.length ≤ 20000 ∧ r = codeK its lg its.length) ∨ (20000 < plN its lg its.length ∧ r = []))) ∨ (¬ (its.length ≤ 20000 ∧ goodAll its ∧ Linked its) ∧ r = [])
theorem AsmR.one {its : List It} {r r' : List Int} (h : AsmR its r) (h' : AsmR its r') : r = r' := by
  rcases h with ⟨a, b, c, lg, f, h⟩ | ⟨n, rfl⟩
  · rcases h' with ⟨_, _, _, lg', f', h'⟩ | ⟨n, _⟩
    · obtain rfl := f.one f'
      rcases h with ⟨l, rfl⟩ | ⟨l, rfl⟩ <;> rcases h' with ⟨l', rfl⟩ | ⟨l', rfl⟩
      · rfl
      · omega
      · omega
      · rfl
    · exact absurd ⟨a, b, c⟩ n
  · rcases h' with ⟨a, b, c, _⟩ | ⟨_, rfl⟩
    · exact absurd ⟨a, b, c⟩ n
    · rfl
theorem AsmR.len {its : List It} {r : List Int} (h : AsmR its r) : r.length ≤ 40000 := by
  rcases h with ⟨a, _, _, lg, _, ⟨_, rfl⟩ | ⟨_, rfl⟩⟩ | ⟨_, rfl⟩
  · have := codeK_len its lg its.length
    omega
  · simp
  · simp

set_option maxRecDepth 100000 in
set_option maxHeartbeats 4000000 in
theorem asmI_any (its : List It) (v : Value) (w : World) (hv : Items w v its) (hwf : ∀ i, i < its.length → (Lit.int .i64 (its.getD i it0).label).wf = true) (hl : its.length ≤ 1048576) :
    Calls Try.prog 7 #[v] w fun e w' => ∃ u r, e = .returned u ∧ AsmR its r ∧ URow w.heap.size w' u r ∧ Below w.heap.size w w' := by
  have HV : Hid (Items w v its) := hv
  have HWf : Hid (∀ i, i < its.length → (Lit.int .i64 (its.getD i it0).label).wf = true) := hwf
  obtain ⟨av, cv, rfl, hcl, hcm, -⟩ := hv
  clear hwf
  by_cases h2 : 20000 < its.length
  · have HR : Hid (AsmR its []) := .inr ⟨fun h => by omega, rfl⟩
    go_enter Try.func7, Try.ntmps7
    go_wp2_with fail
    go_ret
    exact ⟨_, [], rfl, HR.out, urow_lit w _ (Nat.le_refl _), (Below.refl _ _).alloc (Nat.le_refl _) _⟩
  have hn : its.length ≤ 20000 := by omega
  go_enter Try.func7, Try.ntmps7
  go_wp2_with fail
  refine (new_any its _ w hn HV.out HWf.out).mono ?_
  rintro e w1 (⟨hg1, hg2, B, g, pa, cap, vb, A, G, L, rfl, hN⟩ | ⟨hno, rfl, hb1⟩)
  · have HN : Hid (NewOk w w1 its B g pa cap vb A G L) := hN
    have HGA : Hid (goodAll its) := hg1
    have HLk : Hid (Linked its) := hg2
    clear hg1 hg2 hN
    go_wp2_with fail
    refine (settle_any B g its.length pa cap vb its A G L w1 HN.out.bg HN.out.lB.2 HN.out.lg.2 hn HN.out.cap HN.out.asm HN.out.lgs HN.out.go HN.out.brs HLk.out).mono ?_
    rintro e w2 ⟨lg, A', L', hF, hL', rfl, hT2, hA2, hAt⟩
    have HF : Hid (Fin its lg) := hF
    have hB2 : Below w.heap.size w w2 := HN.out.bel.trans (hT2.below HN.out.lg.1 HN.out.bel.size)
    have HA2 : Hid (Asm w2 B g its.length pa cap vb its A' G L') := hA2
    have HL' : Hid (lgL L' its.length = lg) := hL'
    have HAt : Hid (∀ i, i < its.length → A' i = 4 * ((plN its lg i : Nat) : Int)) := hAt
    have hple := plN_le its lg its.length
    have b0 := hA2.box
    clear hF hL' hT2 hA2 hAt
    by_cases hbig : 20000 < plN its lg its.length
    · have HR : Hid (AsmR its []) := .inl ⟨hn, HGA.out, HLk.out, lg, HF.out, .inr ⟨hbig, rfl⟩⟩
      go_wp2_with fail
      go_ret
      exact ⟨_, [], rfl, HR.out, urow_lit w2 _ hB2.size, hB2.alloc hB2.size _⟩
    · have HR : Hid (AsmR its (codeK its lg its.length)) := .inl ⟨hn, HGA.out, HLk.out, lg, HF.out, .inl ⟨by omega, rfl⟩⟩
      generalize plN its lg its.length = pl at hple hbig ⊢
      go_wp2_with fail
      obtain ⟨M, hM0⟩ : ∃ M, M = w2.heap.size := ⟨_, rfl⟩
      have HM : Hid (M = w2.heap.size) := hM0
      clear hM0
      go_loopw [4, 25] (fun c i wr => ∃ k : Nat, k ≤ its.length ∧ i = .int .i64 k ∧ URow M wr c (codeK its lg k) ∧ Below M w2 wr) (fun _ i _ => its.length - (intOf i).toNat)
      case atStart => exact ⟨0, Nat.zero_le _, rfl, World.ownsRow_nil _ _ _ _, Below.refl _ _⟩
      case round =>
        obtain ⟨k, hk, rfl, hU, hB⟩ := hrel
        obtain ⟨ac, cc, rfl⟩ := hU.shape
        have HU : Hid (URow M wr (.slice ac (codeK its lg k).length cc) (codeK its lg k)) := hU
        have hBw : Below w2.heap.size w2 wr := by rw [← HM.out]; exact hB
        have hsM : M ≤ wr.heap.size := by rw [HM.out]; exact hBw.size
        have hcl2 := codeK_len its lg k
        have b0' := (hBw.cell (p := ⟨B, 0, none⟩) (World.block_lt_of_cell? _ _ b0)).trans b0
        clear hU
        by_cases hlt : k < its.length
        · have hpa := HA2.out.row (by omega)
          subst hpa
          have HPc : Hid (Pc wr g (k * 10) (its.getD k it0) (A' k) (G k) (L' k)) := (HA2.out.pcs.pc k hlt).below hBw
          have htl := tgt_lt HLk.out hlt
          have HGo : Hid (Goal wr (its.getD k it0) (G k) (A' (tgt its k))) := fun hkd => ⟨g, tgt its k * 10, _, _, _, HN.out.go k hlt (by omega) (by omega), (HA2.out.pcs.pc (tgt its k) htl).below hBw⟩
          have HFar : Hid (A' (tgt its k) - A' k = farN its lg k) := by show _ = _; rw [HAt.out k hlt, HAt.out _ htl]; rfl
          have hp1 := plN_le its lg k
          have hp2 := plN_le its lg (tgt its k)
          have ha1 := HAt.out k hlt
          have ha2 := HAt.out _ htl
          have hb1 : 0 ≤ A' k ∧ A' k ≤ 1000000000 := by omega
          have hb2 : 0 ≤ A' (tgt its k) ∧ A' (tgt its k) ≤ 1000000000 := by omega
          have HOp : Hid ((its.getD k it0).kind = 3 → 4 ≤ (its.getD k it0).ins.op ∧ (its.getD k it0).ins.op ≤ 9) := fun h3 => good_op (HGA.out k hlt) h3
          have HLk2 : Hid (lg.getD k false = L' k) := by show _ = _; rw [← HL'.out, lgL_at L' _ k hlt]
          clear ha1 ha2 hp1 hp2
          go_wp2_with fail
          refine (code_any g (k * 10) (its.getD k it0) (A' k) (A' (tgt its k)) (G k) (L' k) wr HPc.out HGo.out hb1 hb2 HOp.out).mono ?_
          rintro e w3 ⟨v3, rfl, hs3, hb3⟩
          rw [HFar.out, ← HLk2.out] at hs3
          have HC : Hid (codeK its lg (k + 1) = codeK its lg k ++ wds (its.getD k it0) (farN its lg k) (lg.getD k false)) := rfl
          have hwl := wds_len (its.getD k it0) (farN its lg k) (lg.getD k false)
          generalize wds (its.getD k it0) (farN its lg k) (lg.getD k false) = ws at hs3 HC hwl
          have HS3 : Hid (USrc w3 v3 ws) := hs3
          obtain ⟨a3, c3, rfl, -⟩ := hs3
          have HU3 : Hid (URow M w3 (.slice ac (codeK its lg k).length cc) (codeK its lg k)) := HU.out.below hb3
          have hB3 : Below M w2 w3 := hB.trans (hb3.mono hsM)
          have hsM3 : M ≤ w3.heap.size := Nat.le_trans hsM hb3.size
          generalize codeK its lg k = ck at HU3 HC hcl2 HU ⊢
          clear hb3
          go_wp2_with (at_builtin; refine wpList_appU rfl _ _ rfl M _ ck rfl HU3.out _ ws rfl HS3.out (by omega) hsM3 ?_)
          intro v4 w4 ho4 hg4
          have HU4 : Hid (URow M w4 v4 (codeK its lg (k + 1))) := by show URow _ _ _ _; rw [HC.out]; exact ho4
          have hB4 : Below M w2 w4 := hB3.grown hg4 hsM3 (fun x hx => (World.ownsRow.lt HU3.out x hx).1)
          obtain ⟨a4, c4, rfl⟩ := HU4.out.shape
          clear ho4 hg4
          go_wp2_with fail
          go_roundw
          case rel => exact ⟨k + 1, by omega, by go_num, HU4.out, hB4⟩
          case measure => simp [intOf]; omega
        · obtain rfl : k = its.length := by omega
          have hBf : Below w.heap.size w wr := hB2.trans (hBw.mono hB2.size)
          go_wp2_with fail
          go_ret
          exact ⟨_, _, rfl, HR.out, HU.out.base (by rw [HM.out]; exact hB2.size), hBf⟩
  · have HR : Hid (AsmR its []) := .inr ⟨fun h => hno ⟨h.2.1, h.2.2⟩, rfl⟩
    clear hno
    go_wp2_with fail
    go_ret
    exact ⟨_, [], rfl, HR.out, urow_lit w1 _ hb1.size, hb1.alloc hb1.size _⟩

end Go.Proofs.Ytkbonhbegpiajaa
