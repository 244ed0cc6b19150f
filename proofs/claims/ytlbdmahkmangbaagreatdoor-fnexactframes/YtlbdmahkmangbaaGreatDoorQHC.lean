import Derived.Test.YtlbdmahkmangbaaGreatDoorQGS
import Derived.Test.YtlbdmahkmangbaaGreatDoorQCKW
import Derived.Test.YtlbdmahkmangbaaGreatDoorQCCI
import Derived.Deep.RegionHeld3
import Derived.Test.YtlbdmahkmangbaaGreatDoorQHA
import Derived.Test.YtlbdmahkmangbaaGreatDoorQCL1
import Derived.Test.YtlbdmahkmangbaaGreatDoorQCLb
set_option linter.unusedSectionVars false
variable [Inhabited Go.Proofs.YtlbdmahkmangbaaGreatDoor.Pick]
namespace Go.Proofs.YtlbdmahkmangbaaGreatDoor
open Go.RowKit
set_option linter.unusedVariables false
set_option linter.unusedSimpArgs false

open Classical in
set_option maxRecDepth 100000 in
set_option maxHeartbeats 1000000 in
theorem sound_any (t : Tr) (vg vf : Value) (w : World) (hT : Tab w) (hs : smallT t) (hw : wfT t) (hg : Globs w vg t.globals) (hf : Funcs w vf t.funcs) :
    Calls Tryz.prog 19 #[.agg #[vg, vf]] w fun e w' => e = .returned (.bool (decide ((checkE t).1 = 0))) ∧ Below w.heap.size w w' := by
  obtain ⟨x, y, z, hX⟩ : ∃ x y z, checkE t = (x, y, z) := ⟨_, _, _, rfl⟩
  obtain ⟨ag, cg, rfl, -⟩ := id hg
  obtain ⟨af, cf, rfl, -⟩ := id hf
  have hA : ∀ o, Below w.heap.size w (w.alloc o) := fun o => (Below.refl _ _).alloc (Nat.le_refl _) o
  have HC : Hid (∀ W, Below w.heap.size w W → Calls Tryz.prog 36 #[.agg #[.slice ag t.globals.length cg, .slice af t.funcs.length cf]] W fun e w' => e = .returned (errV x y z) ∧ Below W.heap.size W w') := fun W hW => by
    have := checkI_any t _ _ W (hT.below hT.size hW) hs hw (hg.below hW) (hf.below hW)
    rw [hX] at this
    exact this
  rw [hX]
  clear hT hs hw hg hf hX
  simp only
  by_cases hz : x = 0
  · subst hz
    rw [decide_eq_true rfl]
    go_enter Tryz.func19, Tryz.ntmps19
    go_wp2_with fail
    refine (HC.out _ (hA _)).mono ?_
    rintro e w1 ⟨rfl, hb1⟩
    rw [errV_zero]
    have hB1 := (hA _).trans (hb1.mono (hA _).size)
    clear hA HC hb1
    go_wp2_with fail
    go_ret
    exact ⟨rfl, hB1⟩
  · rw [decide_eq_false hz]
    go_enter Tryz.func19, Tryz.ntmps19
    go_wp2_with fail
    refine (HC.out _ (hA _)).mono ?_
    rintro e w1 ⟨rfl, hb1⟩
    rw [errV_ne hz]
    have hB1 := (hA _).trans (hb1.mono (hA _).size)
    clear hA HC hb1
    go_wp2_with fail
    go_ret
    exact ⟨rfl, hB1⟩

/-- A row of numbers, in blocks from B on. -/
def FRow (B : Nat) (w : World) (v : Value) (l : List Int) : Prop := w.ownsRow B 2 1 v l.length (l.map (Value.int .i64))
theorem FRow.below {B : Nat} {w w' : World} {v : Value} {l : List Int} (h : FRow B w v l) (hb : Below w.heap.size w w') : FRow B w' v l := ownb_below h hb
theorem FRow.shape {B : Nat} {w : World} {v : Value} {l : List Int} (h : FRow B w v l) : ∃ a c, v = .slice a l.length c := by
  rcases h.2 with ⟨rfl, hz⟩ | ⟨g, cap, cur, rfl, _⟩
  · exact ⟨none, 0, by rw [hz]⟩
  · exact ⟨_, cap, rfl⟩
theorem frow_lit (W : World) (B : Nat) (hB : B ≤ W.heap.size) : FRow B (W.alloc (.cells #[] 2)) (.slice (some ⟨W.heap.size, 0, none⟩) 0 0) [] := World.ownsRow_lit W #[] 0 hB (by decide) rfl
theorem wpList_appI {w : World} {ops : Array Oper} {rest : List Oper} {o : Oper} {a : Act} {Q : Exit → Act → World → Prop} (hgd : o.guard = none) (s x : Operand)
    (ho : o.op = .call { callee := .builtin .append, args := #[s, x], argTypes := #[27, 27] })
    (B : Nat) (v : Value) (l : List Int) (z : Int) (hs : a.eval s = v) (hown : FRow B w v l) (b c : Nat) (hx : a.eval x = .slice (some ⟨b, 0, none⟩) 1 c) (hz : w.cell? ⟨b, 0, none⟩ = some (.int .i64 z))
    (hm : l.length ≤ 1000000) (hbase : B ≤ w.heap.size)
    (h : ∀ v' w', FRow B w' v' (l ++ [z]) → w.grownBy w' v.ownBlock → wpList Tryz.prog ops Q rest (a.put o.dst v') w') : wpList Tryz.prog ops Q (o :: rest) a w := by
  obtain ⟨i1, hj, hy0, hy1, hy2⟩ := info_parts info_i64
  refine wpList_appF hgd s x _ ho B 2 i1 _ 1 8 Tryz.underlying27 hj hy0 hy1 hy2 rfl (by decide) v l.length (l.map (Value.int .i64)) hs hown ⟨b, 0, none⟩ 1 c [.int .i64 z] hx rfl ?_ (by simp [Value.oneCell']) (by omega) (by decide) hbase fun v' w' h1 h2 h3 => h v' w' ?_ h2
  · intro j u hj
    have hl : j = 0 := by
      have := (List.getElem?_eq_some_iff.1 hj).1
      simp at this
      omega
    subst hl
    simp at hj
    rw [← hj]
    simpa [Addr.add] using hz
  · unfold FRow
    rw [List.length_append, List.map_append]
    exact h1

theorem fld_size (b : Nat) (n z : Int) (W : World) : (Instr.field 54 (.agg #[.map (some b), .int .i64 n, .int .i64 z]) 2).run Tryz.prog W = .ok (.int .i64 z) W := by kernel_rfl
set_option maxRecDepth 100000 in
set_option maxHeartbeats 4000000 in
/-- impl.Frames. -/
theorem framesI_any (t : Tr) (vg vf : Value) (w : World) (hT : Tab w) (hs : smallT t) (hw : wfT t) (hg : Globs w vg t.globals) (hf : Funcs w vf t.funcs) :
    Calls Tryz.prog 7 #[.agg #[vg, vf]] w fun e w' => ∃ v, e = .returned v ∧ FRow w.heap.size w' v (framesL t) ∧ Below w.heap.size w w' := by
  have HT : Hid (Tab w) := hT
  have hsz := hT.size
  have HSo : Hid (∀ W, Below w.heap.size w W → Calls Tryz.prog 19 #[.agg #[vg, vf]] W fun e w' => e = .returned (.bool (decide ((checkE t).1 = 0))) ∧ Below W.heap.size W w') := fun W hW => sound_any t vg vf W (hT.below hT.size hW) hs hw (hg.below hW) (hf.below hW)
  have HOk : Hid ((checkE t).1 = 0 → t.funcs.length ≤ 50 ∧ ∀ f ∈ t.funcs, FrOk f) := fun h => frOk h hw
  obtain ⟨ag, cg, rfl, -⟩ := hg
  obtain ⟨af, cf, rfl, -, -, hfc⟩ := hf
  have HFC : Hid (0 < t.funcs.length → ∃ b off, af = some ⟨b, off, none⟩ ∧ FuncsC w b off t.funcs) := hfc
  clear hT hs hw hfc
  obtain ⟨W0, hW0⟩ : ∃ W0, W0 = w.alloc (.cells #[.slice ag t.globals.length cg, .slice af t.funcs.length cf] 32) := ⟨_, rfl⟩
  have hA0 : Below w.heap.size w W0 := by rw [hW0]; exact (Below.refl _ _).alloc (Nat.le_refl _) _
  have hs0 : W0.heap.size = w.heap.size + 1 := by rw [hW0]; simp
  have hA1 : Below w.heap.size w (W0.alloc (.cells #[] 2)) := hA0.alloc hA0.size _
  have HR0 : Hid (FRow w.heap.size (W0.alloc (.cells #[] 2)) (.slice (some ⟨w.heap.size + 1, 0, none⟩) 0 0) []) := by
    have := frow_lit W0 w.heap.size hA0.size
    rw [hs0] at this
    exact this
  have HBx : Hid (∀ W, Below (w.heap.size + 1) W0 W → W.cell? ⟨w.heap.size, 0, none⟩ = some (.slice ag t.globals.length cg) ∧ W.cell? ⟨w.heap.size, 1, none⟩ = some (.slice af t.funcs.length cf)) := fun W hW => by
    rw [hW0] at hW
    exact box2 hW
  have hA2 : Below (w.heap.size + 1) W0 (W0.alloc (.cells #[] 2)) := (Below.refl _ _).alloc (by omega) _
  have HW0 : Hid (W0 = w.alloc (.cells #[.slice ag t.globals.length cg, .slice af t.funcs.length cf] 32)) := hW0
  clear hW0 hA0
  go_enter Tryz.func7, Tryz.ntmps7
  go_wp2_with fail
  rw [← HW0.out]
  refine (HSo.out _ hA1).mono ?_
  rintro e w1 ⟨rfl, hb1⟩
  have hB1 := hA1.trans (hb1.mono hA1.size)
  have HR1 : Hid (FRow w.heap.size w1 (.slice (some ⟨w.heap.size + 1, 0, none⟩) 0 0) []) := HR0.out.below hb1
  obtain ⟨x0, x1⟩ := HBx.out w1 (hA2.trans (hb1.mono (by have := hA2.size; omega)))
  clear hA1 hA2 hb1 HR0 HSo HBx HW0
  by_cases hz : (checkE t).1 = 0
  · obtain ⟨hfl, hfo⟩ := HOk.out hz
    have HFo : Hid (∀ f ∈ t.funcs, FrOk f) := hfo
    have HRes : Hid (framesL t = t.funcs.map frameSz) := framesL_yes hz
    rw [decide_eq_true hz]
    clear hz hfo HOk
    go_wp2_with fail
    go_loopw [3, 14] (fun v i wr => ∃ k : Nat, k ≤ t.funcs.length ∧ i = .int .i64 k ∧ FRow w.heap.size wr v ((t.funcs.take k).map frameSz) ∧ Below w.heap.size w wr) (fun _ i _ => t.funcs.length - (RowKit.intOf i).toNat)
    case atStart => exact ⟨0, Nat.zero_le _, rfl, HR1.out, hB1⟩
    case round =>
      clear HR1 hB1 x0 x1
      obtain ⟨k, hk, rfl, hR, hB⟩ := hrel
      by_cases hlt : k < t.funcs.length
      · obtain ⟨b, off, rfl, hc⟩ := HFC.out (by omega)
        obtain ⟨vp, vb, ⟨d0, d1, d2⟩, hp, hb⟩ := (hc.below hB) k hlt
        have hok := HFo.out _ (List.getElem_mem hlt)
        have HF : Hid (∀ W, Below wr.heap.size wr W → Calls Tryz.prog 20 #[.agg #[.string t.funcs[k].name, vp, vb]] W fun e w' => ∃ b N, e = .returned (.agg #[.map (some b), .int .i64 N, .int .i64 (frameSz t.funcs[k])]) ∧ Below W.heap.size W w') := fun W hW => (frameOf_any t.funcs[k] vp vb W (HT.out.below hsz (hB.trans (hW.mono hB.size))) (hp.below hW) (hb.below hW) hok.st hok.nd hok.pl (by have := hok.bl; omega) hok.sz).mono (by rintro e w' ⟨b, rfl, h⟩; exact ⟨b, _, rfl, h⟩)
        have HN : Hid ((t.funcs.take (k + 1)).map frameSz = (t.funcs.take k).map frameSz ++ [frameSz t.funcs[k]]) := by show _ = _; rw [List.take_succ_eq_append_getElem hlt, List.map_append]; rfl
        obtain ⟨ap, cp, rfl, -⟩ := hp
        obtain ⟨ab, cb, rfl, -⟩ := hb
        clear hc hok
        generalize frameSz t.funcs[k] = F at HF HN
        generalize t.funcs[k].params.length = lp at d1 HF
        generalize t.funcs[k].body.length = lb at d2 HF
        generalize t.funcs[k].name = nm at d0 HF
        have hll : ((t.funcs.take k).map frameSz).length ≤ 1000 := by simp; omega
        generalize (t.funcs.take k).map frameSz = l at hR HN hll
        obtain ⟨av, cv, rfl⟩ := hR.shape
        have hA : ∀ o, Below wr.heap.size wr (wr.alloc o) := fun o => (Below.refl _ _).alloc (Nat.le_refl _) o
        have HR : Hid (FRow w.heap.size wr (.slice av l.length cv) l) := hR
        clear hR
        go_wp2_with fail
        refine (HF.out _ (hA _)).mono ?_
        rintro e w2 ⟨bm, NN, rfl, hb2⟩
        have hb2' := (hA _).trans (hb2.mono (hA _).size)
        have hB2 : Below w.heap.size w w2 := hB.trans (hb2'.mono hB.size)
        have HR2 : Hid (FRow w.heap.size (w2.alloc (.cells #[.int .i64 F] 2)) (.slice av l.length cv) l) := (HR.out.below hb2').below ((Below.refl _ _).alloc (Nat.le_refl _) _)
        have hz : (w2.alloc (.cells #[.int .i64 F] 2)).cell? ⟨w2.heap.size, 0, none⟩ = some (.int .i64 F) := by simp
        have hsz2 := hB2.size
        have hfd := fld_size bm NN F
        clear hb2 hb2' HF d0 d1 d2 hA HR hB
        go_wp2_with (at_builtin; refine wpList_appI rfl _ _ rfl w.heap.size _ l F rfl HR2.out w2.heap.size 1 rfl hz (by omega) (by simp; omega) ?_)
        intro v3 w3 hr3 hg3
        have hB3 : Below w.heap.size w w3 := (hB2.alloc hsz2 _).grown hg3 (by simp; omega) (fun g hg => (World.ownsRow.lt HR2.out g hg).1)
        rw [← HN.out] at hr3
        have HR3 : Hid (FRow w.heap.size w3 v3 ((t.funcs.take (k + 1)).map frameSz)) := hr3
        clear hr3 hg3 hz HR2 HN hB2 hfd
        go_wp2_with fail
        go_roundw
        case rel => exact ⟨k + 1, by omega, by go_num, HR3.out, hB3⟩
        case measure => simp [RowKit.intOf]; omega
      · obtain rfl : k = t.funcs.length := by omega
        rw [List.take_length, ← HRes.out] at hR
        obtain ⟨av, cv, rfl⟩ := hR.shape
        have HR : Hid (FRow w.heap.size wr (.slice av (framesL t).length cv) (framesL t)) := hR
        clear hR
        go_wp2_with fail
        go_ret
        exact ⟨_, rfl, HR.out, hB⟩
  · have HRes : Hid (framesL t = []) := framesL_no hz
    rw [decide_eq_false hz]
    clear hz HOk
    go_wp2_with fail
    go_ret
    exact ⟨_, rfl, by rw [HRes.out]; exact HR1.out, hB1⟩

end Go.Proofs.YtlbdmahkmangbaaGreatDoor

namespace Go.Proofs.YtlbdmahkmangbaaGreatDoor
open Go.RowKit
set_option linter.unusedVariables false
set_option linter.unusedSimpArgs false

theorem fld_err (x y z : Int) (W : World) : (Instr.field 42 (.agg #[.int .i64 x, .int .i64 y, .int .i64 z]) 0).run Tryz.prog W = .ok (.int .i64 x) W := by kernel_rfl
set_option maxRecDepth 100000 in
set_option maxHeartbeats 4000000 in
/-- spec.Frames. -/
theorem framesG_any (t : Tr) (vg vf : Value) (w : World) (hs : smallT t) (hw : wfT t) (hg : Globs w vg t.globals) (hf : Funcs w vf t.funcs) :
    Calls Tryz.prog 5 #[.agg #[vg, vf]] w fun e w' => ∃ v, e = .returned v ∧ FRow w.heap.size w' v (framesL t) ∧ Below w.heap.size w w' := by
  obtain ⟨x, y, z, hX⟩ : ∃ x y z, checkE t = (x, y, z) := ⟨_, _, _, rfl⟩
  have HSo : Hid (∀ W, Below w.heap.size w W → Calls Tryz.prog 15 #[.agg #[vg, vf]] W fun e w' => e = .returned (.agg #[.int .i64 x, .int .i64 y, .int .i64 z]) ∧ Below W.heap.size W w') := fun W hW => by
    have := checkCG_any l3block t vg vf W hs hw (hg.below hW) (hf.below hW)
    rw [hX] at this
    exact this
  have HOk : Hid (x = 0 → framesL t = t.funcs.map frameSz ∧ t.funcs.length ≤ 50 ∧ ∀ f ∈ t.funcs, FrOk f) := fun h => by
    have h0 : (checkE t).1 = 0 := by rw [hX]; exact h
    exact ⟨framesL_yes h0, frOk h0 hw⟩
  have HNo : Hid (x ≠ 0 → framesL t = []) := fun h => framesL_no (by rw [hX]; exact h)
  obtain ⟨ag, cg, rfl, -⟩ := hg
  obtain ⟨af, cf, rfl, -, -, hfc⟩ := hf
  have HFC : Hid (0 < t.funcs.length → ∃ b off, af = some ⟨b, off, none⟩ ∧ FuncsC w b off t.funcs) := hfc
  clear hs hw hfc hX
  obtain ⟨W0, hW0⟩ : ∃ W0, W0 = w.alloc (.cells #[.slice ag t.globals.length cg, .slice af t.funcs.length cf] 32) := ⟨_, rfl⟩
  have hA0 : Below w.heap.size w W0 := by rw [hW0]; exact (Below.refl _ _).alloc (Nat.le_refl _) _
  have hs0 : W0.heap.size = w.heap.size + 1 := by rw [hW0]; simp
  have hA1 : Below w.heap.size w (W0.alloc (.cells #[] 2)) := hA0.alloc hA0.size _
  have HR0 : Hid (FRow (w.heap.size + 1) (W0.alloc (.cells #[] 2)) (.slice (some ⟨w.heap.size + 1, 0, none⟩) 0 0) []) := by
    have := frow_lit W0 (w.heap.size + 1) (by omega)
    rw [hs0] at this
    exact this
  have HBx : Hid (∀ W, Below (w.heap.size + 1) W0 W → (W.cell? ⟨w.heap.size, 0, none⟩ = some (.slice ag t.globals.length cg) ∧ W.cell? ⟨w.heap.size, 1, none⟩ = some (.slice af t.funcs.length cf)) ∧ Below w.heap.size w W ∧ w.heap.size + 1 ≤ W.heap.size) := fun W hW => by
    have h2 := hW.size
    rw [hs0] at h2
    exact ⟨by rw [hW0] at hW; exact box2 hW, hA0.trans (hW.mono (by omega)), h2⟩
  have hA2 : Below (w.heap.size + 1) W0 (W0.alloc (.cells #[] 2)) := (Below.refl _ _).alloc (by omega) _
  have HW0 : Hid (W0 = w.alloc (.cells #[.slice ag t.globals.length cg, .slice af t.funcs.length cf] 32)) := hW0
  clear hW0 hA0
  go_enter Tryz.func5, Tryz.ntmps5
  go_wp2_with fail
  rw [← HW0.out]
  refine (HSo.out _ hA1).mono ?_
  rintro e w1 ⟨rfl, hb1⟩
  have HR1 : Hid (FRow (w.heap.size + 1) w1 (.slice (some ⟨w.heap.size + 1, 0, none⟩) 0 0) []) := HR0.out.below hb1
  have hB1 : Below (w.heap.size + 1) W0 w1 := hA2.trans (hb1.mono (by have := hA2.size; omega))
  have hfd := fld_err x y z
  clear hA1 hA2 hb1 HR0 HSo HW0
  by_cases hz : x = 0
  · obtain ⟨hres, hfl, hfo⟩ := HOk.out hz
    have HFo : Hid (∀ f ∈ t.funcs, FrOk f) := hfo
    have HRes : Hid (framesL t = t.funcs.map frameSz) := hres
    clear hres hfo HOk HNo
    subst hz
    go_wp2_with fail
    clear hfd
    go_loopw [3, 4] (fun v i wr => ∃ k : Nat, k ≤ t.funcs.length ∧ i = .int .i64 k ∧ FRow (w.heap.size + 1) wr v ((t.funcs.take k).map frameSz) ∧ Below (w.heap.size + 1) W0 wr) (fun _ i _ => t.funcs.length - (RowKit.intOf i).toNat)
    case atStart => exact ⟨0, Nat.zero_le _, rfl, HR1.out, hB1⟩
    case round =>
      clear HR1 hB1
      obtain ⟨k, hk, rfl, hR, hB⟩ := hrel
      obtain ⟨⟨x0, x1⟩, hBw, hsw⟩ := HBx.out wr hB
      by_cases hlt : k < t.funcs.length
      · obtain ⟨b, off, rfl, hc⟩ := HFC.out (by omega)
        obtain ⟨vp, vb, ⟨d0, d1, d2⟩, hp, hb⟩ := (hc.below hBw) k hlt
        have hok := HFo.out _ (List.getElem_mem hlt)
        have HF : Hid (Calls Tryz.prog 16 #[.agg #[.string t.funcs[k].name, vp, vb]] wr fun e w' => e = .returned (.int .i64 (frameSz t.funcs[k])) ∧ Below wr.heap.size wr w') := frameG_any t.funcs[k] vp vb wr hok hp hb
        have HN : Hid ((t.funcs.take (k + 1)).map frameSz = (t.funcs.take k).map frameSz ++ [frameSz t.funcs[k]]) := by show _ = _; rw [List.take_succ_eq_append_getElem hlt, List.map_append]; rfl
        obtain ⟨ap, cp, rfl, -⟩ := hp
        obtain ⟨ab, cb, rfl, -⟩ := hb
        clear hc hok
        generalize frameSz t.funcs[k] = F at HF HN
        generalize t.funcs[k].params.length = lp at d1 HF
        generalize t.funcs[k].body.length = lb at d2 HF
        generalize t.funcs[k].name = nm at d0 HF
        have hll : ((t.funcs.take k).map frameSz).length ≤ 1000 := by simp; omega
        generalize (t.funcs.take k).map frameSz = l at hR HN hll
        obtain ⟨av, cv, rfl⟩ := hR.shape
        have HR : Hid (FRow (w.heap.size + 1) wr (.slice av l.length cv) l) := hR
        clear hR
        go_wp2_with fail
        refine HF.out.mono ?_
        rintro e w2 ⟨rfl, hb2⟩
        have hB2 : Below (w.heap.size + 1) W0 w2 := hB.trans (hb2.mono hsw)
        have HR2 : Hid (FRow (w.heap.size + 1) (w2.alloc (.cells #[.int .i64 F] 2)) (.slice av l.length cv) l) := (HR.out.below hb2).below ((Below.refl _ _).alloc (Nat.le_refl _) _)
        have hz : (w2.alloc (.cells #[.int .i64 F] 2)).cell? ⟨w2.heap.size, 0, none⟩ = some (.int .i64 F) := by simp
        have hsz2 : w.heap.size + 1 ≤ w2.heap.size := Nat.le_trans hsw hb2.size
        clear hb2 HF d0 d1 d2 HR hB x0 x1 hBw hsw
        go_wp2_with (at_builtin; refine wpList_appI rfl _ _ rfl (w.heap.size + 1) _ l F rfl HR2.out w2.heap.size 1 rfl hz (by omega) (by simp; omega) ?_)
        intro v3 w3 hr3 hg3
        have hB3 : Below (w.heap.size + 1) W0 w3 := (hB2.alloc hsz2 _).grown hg3 (by simp; omega) (fun g hg => (World.ownsRow.lt HR2.out g hg).1)
        rw [← HN.out] at hr3
        have HR3 : Hid (FRow (w.heap.size + 1) w3 v3 ((t.funcs.take (k + 1)).map frameSz)) := hr3
        clear hr3 hg3 hz HR2 HN hB2
        go_wp2_with fail
        go_roundw
        case rel => exact ⟨k + 1, by omega, by go_num, HR3.out, hB3⟩
        case measure => simp [RowKit.intOf]; omega
      · obtain rfl : k = t.funcs.length := by omega
        rw [List.take_length, ← HRes.out] at hR
        obtain ⟨av, cv, rfl⟩ := hR.shape
        have HR : Hid (FRow (w.heap.size + 1) wr (.slice av (framesL t).length cv) (framesL t)) := hR
        clear hR
        go_wp2_with fail
        go_ret
        exact ⟨_, rfl, ownsRow_base_a HR.out (by omega), hBw⟩
  · have HRes : Hid (framesL t = []) := HNo.out hz
    have hx0 : (x == 0) = false := by simp [hz]
    clear HOk HNo
    go_wp2_with fail
    go_ret
    exact ⟨_, rfl, by rw [HRes.out]; exact ownsRow_base_a HR1.out (by omega), (HBx.out w1 hB1).2.1⟩

end Go.Proofs.YtlbdmahkmangbaaGreatDoor
