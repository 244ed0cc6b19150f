import Derived.Test.YtefnijmgdcfhiaaGreatDoorQVC
import Derived.Test.YtefnijmgdcfhiaaGreatDoorQW0
import Derived.Test.YtefnijmgdcfhiaaGreatDoorQCA0
import Derived.StringKeys
import Derived.Maps.OwnOps
import Derived.Maps.OwnSet
namespace Go.Proofs.YtefnijmgdcfhiaaGreatDoor
open Go.RowKit
set_option linter.unusedVariables false
set_option linter.unusedSimpArgs false

theorem map_below {P : Program} {k : TypeId} {R : Value → Option (DataW Unit × List MemPlace)} {w w' : World} {b n : Nat} {D : DataW Unit} (h : w.ownsMap P k R b n D) (hb : Below w.heap.size w w') : w'.ownsMap P k R b n D := by
  have hlt := h.lt
  obtain ⟨es, clock, h0, F, hs, hD⟩ := h
  exact ⟨es, clock, (hb.block b hlt).trans h0, F, hs, hD⟩
theorem look_num {W : World} {b nn : Nat} {D : DataW Unit} {fs : List Fu} (hown : W.ownsMap Tryz.prog 9 (plainElem (H := Unit) Tryz.prog 2) b nn D) (hN : NumIs D fs) {s : ByteArray} (hs : s.size ≤ maxLen) {g : Nat} (h : fnum fs s = some g) :
    (Instr.lookup 48 (.map (some b)) (.string s) true).run Tryz.prog W = .ok (.tuple #[.int .i64 (g : Int), .bool true]) W := by
  obtain ⟨v, ps, hrun, hv⟩ := hown.look_ok (Maps.string_keyed Tryz.underlying9) Tryz.underlying48 (Tryz.zeroValue2 _) (plainElem_int Tryz.underlying2 (by decide)) (WideMaps.keyOf_string_mk Tryz.underlying9 hs)
  rw [hN.val s g h] at hv
  obtain ⟨c, rfl, hc, _⟩ := plainElem_int_inv Tryz.underlying2 hv
  simp only [Prod.mk.injEq, DataW.lit.injEq, Lit.int.injEq, true_and] at hc
  obtain ⟨hc, -⟩ := hc
  subst hc
  have hh := hN.has s
  rw [h] at hh
  rw [hh] at hrun
  exact hrun
theorem look_no {W : World} {b nn : Nat} {D : DataW Unit} {fs : List Fu} (hown : W.ownsMap Tryz.prog 9 (plainElem (H := Unit) Tryz.prog 2) b nn D) (hN : NumIs D fs) {s : ByteArray} (hs : s.size ≤ maxLen) (h : fnum fs s = none) :
    (Instr.lookup 48 (.map (some b)) (.string s) true).run Tryz.prog W = .ok (.tuple #[.int .i64 0, .bool false]) W := by
  obtain ⟨v, ps, hrun, hv⟩ := hown.look_ok (Maps.string_keyed Tryz.underlying9) Tryz.underlying48 (Tryz.zeroValue2 _) (plainElem_int Tryz.underlying2 (by decide)) (WideMaps.keyOf_string_mk Tryz.underlying9 hs)
  have hh := hN.has s
  rw [h] at hh
  rw [Maps.atKey_of_not_has hh] at hv
  obtain ⟨c, rfl, hc, _⟩ := plainElem_int_inv Tryz.underlying2 hv
  simp only [Prod.mk.injEq, DataW.lit.injEq, Lit.int.injEq, true_and] at hc
  obtain ⟨hc, -⟩ := hc
  subst hc
  rw [hh] at hrun
  exact hrun

set_option maxRecDepth 100000 in
set_option maxHeartbeats 2000000 in
theorem fnums_any (fs : List Fu) (vg vf : Value) (w : World) (hl : fs.length ≤ 1048576) (hw : wfFs fs) (hf : Funcs w vf fs) :
    Calls Tryz.prog 20 #[.agg #[vg, vf]] w fun e w' => ∃ b D, e = .returned (.map (some b)) ∧ w.heap.size ≤ b ∧ w'.ownsMap Tryz.prog 9 (plainElem (H := Unit) Tryz.prog 2) b fs.length D ∧ NumIs D fs ∧ Below w.heap.size w w' := by
  obtain ⟨af, cf, rfl, -, -, hfc⟩ := hf
  have HFC : Hid (0 < fs.length → ∃ b off, af = some ⟨b, off, none⟩ ∧ FuncsC w b off fs) := hfc
  have HW : Hid (wfFs fs) := hw
  clear hfc hw
  have hmm := @run_makeMap Tryz.prog
  go_enter Tryz.func20, Tryz.ntmps20
  go_wp2_with fail
  go_loopw [12] (fun i wr => ∃ (k : Nat) (D : DataW Unit), k ≤ fs.length ∧ i = .int .i64 k ∧ wr.ownsMap Tryz.prog 9 (plainElem (H := Unit) Tryz.prog 2) (w.heap.size + 1) k D ∧ NumIs D (fs.take k) ∧ Below w.heap.size w wr) (fun i _ => fs.length - (RowKit.intOf i).toNat)
  case atStart => exact ⟨0, .map [], Nat.zero_le _, rfl, by simpa using World.ownsMap_made (w.alloc _) Tryz.prog 9 _, NumIs.nil, ((Below.refl _ _).alloc (Nat.le_refl _) _).alloc (by simp) _⟩
  case round =>
    obtain ⟨k, D, hk, rfl, hM, hN, hB⟩ := hrel
    have HM : Hid (wr.ownsMap Tryz.prog 9 (plainElem (H := Unit) Tryz.prog 2) (w.heap.size + 1) k D) := hM
    have HN : Hid (NumIs D (fs.take k)) := hN
    have hlt0 := hM.lt
    clear hM hN hmm
    by_cases hlt : k < fs.length
    · obtain ⟨b, off, rfl, hc⟩ := HFC.out (by omega)
      obtain ⟨vp, vb, ⟨d0, d1, d2⟩, ⟨ap, cp, rfl, -⟩, ⟨ab, cb, rfl, -⟩⟩ := (hc.below hB) k hlt
      generalize fs[k].params.length = np at d1
      generalize fs[k].body.length = nb at d2
      have HE : Hid (fs.take (k + 1) = fs.take k ++ [fs[k]]) := take_succ fs k hlt
      have HZ : Hid (fs[k].name.size ≤ maxLen) := by
        have := (HW.out.2 fs[k] (List.getElem_mem hlt)).1
        show _ ≤ _
        unfold maxLen; omega
      have HTl : Hid ((fs.take k).length = k) := by show _ = _; simp; omega
      clear hc
      generalize fs[k] = f at d0 d1 d2 HE HZ
      have HMa : Hid ((wr.alloc (.cells #[.string f.name, .slice ap np cp, .slice ab nb cb] 66)).ownsMap Tryz.prog 9 (plainElem (H := Unit) Tryz.prog 2) (w.heap.size + 1) k D) := HM.out.alloc _
      cases hv : fnum (fs.take k) f.name with
      | none =>
        have hlook := look_no HMa.out HN.out HZ.out hv
        have HV : Hid (Maps.has D (kS f.name) = false) := by show _ = _; rw [HN.out.has, hv]; rfl
        clear hv
        go_wp2_with (first
          | (at_mapUpdate; refine wpList_mapUpdate_own _ rfl _ _ _ 48 rfl 9 2 (Maps.string_keyed Tryz.underlying9) Tryz.underlying48 _ (w.heap.size + 1) k D rfl HMa.out (by unfold maxLen; omega) _ _ _ rfl rfl (WideMaps.keyOf_string_mk Tryz.underlying9 HZ.out) _ [] (plainElem_int Tryz.underlying2 (WalkArith.wf_i64 (by omega))) ?_; intro w1 hown1 hgrow1)
          | go_in)
        have HM1 : Hid (w1.ownsMap Tryz.prog 9 (plainElem (H := Unit) Tryz.prog 2) (w.heap.size + 1) (k + 1) (D.put (kS f.name) (.lit (.int .i64 (k : Int))))) := hown1
        have HN1 : Hid (NumIs (D.put (kS f.name) (.lit (.int .i64 (k : Int)))) (fs.take (k + 1))) := by
          have := HN.out.new HV.out
          rw [HTl.out] at this
          rw [HE.out]
          exact this
        have hB1 : Below w.heap.size w w1 := (hB.alloc hB.size _).grown hgrow1 (by have := hB.size; simp; omega) (fun j hj => by cases hj; omega)
        clear hown1 hgrow1
        go_wp2_with fail
        go_roundw
        case rel => exact ⟨k + 1, _, by omega, by go_num, HM1.out, HN1.out, hB1⟩
        case measure => simp [RowKit.intOf]; omega
      | some g =>
        have hlook := look_num HMa.out HN.out HZ.out hv
        have HV : Hid (Maps.has D (kS f.name) = true) := by show _ = _; rw [HN.out.has, hv]; rfl
        clear hv
        go_wp2_with fail
        go_roundw
        case rel => exact ⟨k + 1, D, by omega, by go_num, HMa.out.mono (by omega), by rw [HE.out]; exact HN.out.old HV.out, hB.alloc hB.size _⟩
        case measure => simp [RowKit.intOf]; omega
    · have hkk : k = fs.length := by omega
      have HR : Hid (NumIs D fs) := by have := HN.out; rw [List.take_of_length_le (by omega)] at this; exact this
      go_wp2_with fail
      go_ret
      exact ⟨_, D, rfl, by omega, by rw [← hkk]; exact HM.out, HR.out, hB⟩

end Go.Proofs.YtefnijmgdcfhiaaGreatDoor
