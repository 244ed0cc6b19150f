import Derived.StringKeys
import Derived.Maps.OwnOps
import Derived.Maps.OwnSet
import Derived.Test.YtjhmgjimppflhaaGreatDoorZ34
import Derived.Test.YtjhmgjimppflhaaGreatDoorZ37
import Derived.Test.YtjhmgjimppflhaaGreatDoorZ01
import Derived.Below
set_option linter.unusedSectionVars false
variable [Inhabited Go.Proofs.YtjhmgjimppflhaaGreatDoor.Pick]
namespace Go.Proofs.YtjhmgjimppflhaaGreatDoor
set_option linter.unusedVariables false
set_option linter.unusedSimpArgs false
set_option maxRecDepth 100000
set_option maxHeartbeats 16000000
section
open Go.RowKit
theorem map_below {P : Program} {k : TypeId} {R : Value → Option (DataW Unit × List MemPlace)} {w w' : World} {b n : Nat} {D : DataW Unit} (h : w.ownsMap P k R b n D) (hb : Below w.heap.size w w') : w'.ownsMap P k R b n D := by
  have hlt := h.lt
  obtain ⟨es, clock, h0, F, hs, hD⟩ := h
  exact ⟨es, clock, (hb.block b hlt).trans h0, F, hs, hD⟩
theorem look_num {W : World} {b nn : Nat} {D : DataW Unit} {fs : List Fu} (hown : W.ownsMap Tryz.prog 9 (plainElem (H := Unit) Tryz.prog 2) b nn D) (hN : NumIs D fs) {s : ByteArray} (hs : s.size ≤ maxLen) {g : Nat} (h : fnum fs s = some g) :
    (Instr.lookup 62 (.map (some b)) (.string s) true).run Tryz.prog W = .ok (.tuple #[.int .i64 (g : Int), .bool true]) W := by
  obtain ⟨v, ps, hrun, hv⟩ := hown.look_ok (Maps.string_keyed Tryz.underlying9) Tryz.underlying62 (Tryz.zeroValue2 _) (plainElem_int Tryz.underlying2 (by decide)) (WideMaps.keyOf_string_mk Tryz.underlying9 hs)
  rw [hN.val s g h] at hv
  obtain ⟨c, rfl, hc, _⟩ := plainElem_int_inv Tryz.underlying2 hv
  simp only [Prod.mk.injEq, DataW.lit.injEq, Lit.int.injEq, true_and] at hc
  obtain ⟨hc, -⟩ := hc
  subst hc
  have hh := hN.has s
  rw [h] at hh
  rw [hh] at hrun
  exact hrun
theorem look_no {W : World} {b nn : Nat} {D : DataW Unit} {fs : List Fu} (hown : W.ownsMap Tryz.prog 9 (plainElem (H := Unit) Tryz.prog 2) b nn D) (hN : NumIs D fs) {s : ByteArray} (hs : s.size ≤ maxLen) (h : fnum fs s = none) :
    (Instr.lookup 62 (.map (some b)) (.string s) true).run Tryz.prog W = .ok (.tuple #[.int .i64 0, .bool false]) W := by
  obtain ⟨v, ps, hrun, hv⟩ := hown.look_ok (Maps.string_keyed Tryz.underlying9) Tryz.underlying62 (Tryz.zeroValue2 _) (plainElem_int Tryz.underlying2 (by decide)) (WideMaps.keyOf_string_mk Tryz.underlying9 hs)
  have hh := hN.has s
  rw [h] at hh
  rw [Maps.atKey_of_not_has hh] at hv
  obtain ⟨c, rfl, hc, _⟩ := plainElem_int_inv Tryz.underlying2 hv
  simp only [Prod.mk.injEq, DataW.lit.injEq, Lit.int.injEq, true_and] at hc
  obtain ⟨hc, -⟩ := hc
  subst hc
  rw [hh] at hrun
  exact hrun
set_option maxRecDepth 100000 in
set_option maxHeartbeats 2000000 in
theorem fnums_any (fs : List Fu) (vg vf : Value) (w : World) (hl : fs.length ≤ 1048576) (hw : wfFs fs) (hf : Funcs w vf fs) :
    Calls Tryz.prog 32 #[.agg #[vg, vf]] w fun e w' => ∃ b D, e = .returned (.map (some b)) ∧ w.heap.size ≤ b ∧ w'.ownsMap Tryz.prog 9 (plainElem (H := Unit) Tryz.prog 2) b fs.length D ∧ NumIs D fs ∧ Below w.heap.size w w' := by
  obtain ⟨af, cf, rfl, -, -, hfc⟩ := hf
  have HFC : Hid (0 < fs.length → ∃ b off, af = some ⟨b, off, none⟩ ∧ FuncsC w b off fs) := hfc
  have HW : Hid (wfFs fs) := hw
  clear hfc hw
  have hmm := @run_makeMap Tryz.prog
  go_enter Tryz.func32, Tryz.ntmps32
  go_wp2_with fail
  go_loopw [12] (fun i wr => ∃ (k : Nat) (D : DataW Unit), k ≤ fs.length ∧ i = .int .i64 k ∧ wr.ownsMap Tryz.prog 9 (plainElem (H := Unit) Tryz.prog 2) (w.heap.size + 1) k D ∧ NumIs D (fs.take k) ∧ Below w.heap.size w wr) (fun i _ => fs.length - (RowKit.intOf i).toNat)
  case atStart => exact ⟨0, .map [], Nat.zero_le _, rfl, by simpa using World.ownsMap_made (w.alloc _) Tryz.prog 9 _, NumIs.nil, ((Below.refl _ _).alloc (Nat.le_refl _) _).alloc (by simp) _⟩
  case round =>
    obtain ⟨k, D, hk, rfl, hM, hN, hB⟩ := hrel
    have HM : Hid (wr.ownsMap Tryz.prog 9 (plainElem (H := Unit) Tryz.prog 2) (w.heap.size + 1) k D) := hM
    have HN : Hid (NumIs D (fs.take k)) := hN
    have hlt0 := hM.lt
    clear hM hN hmm
    by_cases hlt : k < fs.length
    · obtain ⟨b, off, rfl, hc⟩ := HFC.out (by omega)
      obtain ⟨vp, vb, ⟨d0, d1, d2⟩, ⟨ap, cp, rfl, -⟩, ⟨ab, cb, rfl, -⟩⟩ := (hc.below hB) k hlt
      generalize fs[k].params.length = np at d1
      generalize fs[k].body.length = nb at d2
      have HE : Hid (fs.take (k + 1) = fs.take k ++ [fs[k]]) := take_succ fs k hlt
      have HZ : Hid (fs[k].name.size ≤ maxLen) := by
        have := (HW.out.2 fs[k] (List.getElem_mem hlt)).1
        show _ ≤ _
        unfold maxLen; omega
      have HTl : Hid ((fs.take k).length = k) := by show _ = _; simp; omega
      clear hc
      generalize fs[k] = f at d0 d1 d2 HE HZ
      have HMa : Hid ((wr.alloc (.cells #[.string f.name, .slice ap np cp, .slice ab nb cb] 61)).ownsMap Tryz.prog 9 (plainElem (H := Unit) Tryz.prog 2) (w.heap.size + 1) k D) := HM.out.alloc _
      cases hv : fnum (fs.take k) f.name with
      | none =>
        have hlook := look_no HMa.out HN.out HZ.out hv
        have HV : Hid (Maps.has D (kS f.name) = false) := by show _ = _; rw [HN.out.has, hv]; rfl
        clear hv
        go_wp2_with (first
          | (at_mapUpdate; refine wpList_mapUpdate_own _ rfl _ _ _ 62 rfl 9 2 (Maps.string_keyed Tryz.underlying9) Tryz.underlying62 _ (w.heap.size + 1) k D rfl HMa.out (by unfold maxLen; omega) _ _ _ rfl rfl (WideMaps.keyOf_string_mk Tryz.underlying9 HZ.out) _ [] (plainElem_int Tryz.underlying2 (WalkArith.wf_i64 (by omega))) ?_; intro w1 hown1 hgrow1)
          | go_in)
        have HM1 : Hid (w1.ownsMap Tryz.prog 9 (plainElem (H := Unit) Tryz.prog 2) (w.heap.size + 1) (k + 1) (D.put (kS f.name) (.lit (.int .i64 (k : Int))))) := hown1
        have HN1 : Hid (NumIs (D.put (kS f.name) (.lit (.int .i64 (k : Int)))) (fs.take (k + 1))) := by
          have := HN.out.new HV.out
          rw [HTl.out] at this
          rw [HE.out]
          exact this
        have hB1 : Below w.heap.size w w1 := (hB.alloc hB.size _).grown hgrow1 (by have := hB.size; simp; omega) (fun j hj => by cases hj; omega)
        clear hown1 hgrow1
        go_wp2_with fail
        go_roundw
        case rel => exact ⟨k + 1, _, by omega, by go_num, HM1.out, HN1.out, hB1⟩
        case measure => simp [RowKit.intOf]; omega
      | some g =>
        have hlook := look_num HMa.out HN.out HZ.out hv
        have HV : Hid (Maps.has D (kS f.name) = true) := by show _ = _; rw [HN.out.has, hv]; rfl
        clear hv
        go_wp2_with fail
        go_roundw
        case rel => exact ⟨k + 1, D, by omega, by go_num, HMa.out.mono (by omega), by rw [HE.out]; exact HN.out.old HV.out, hB.alloc hB.size _⟩
        case measure => simp [RowKit.intOf]; omega
    · have hkk : k = fs.length := by omega
      have HR : Hid (NumIs D fs) := by have := HN.out; rw [List.take_of_length_le (by omega)] at this; exact this
      go_wp2_with fail
      go_ret
      exact ⟨_, D, rfl, by omega, by rw [← hkk]; exact HM.out, HR.out, hB⟩
end
section
open Go.RowKit
/-- A fault as an error, or none. -/
def errV (e fn st : Int) : Value := if e = 0 then .nilIface else .iface 51 (.agg #[.int .i64 e, .int .i64 fn, .int .i64 st])
theorem errV_zero (fn st : Int) : errV 0 fn st = .nilIface := rfl
theorem errV_ne {e fn st : Int} (h : e ≠ 0) : errV e fn st = .iface 51 (.agg #[.int .i64 e, .int .i64 fn, .int .i64 st]) := if_neg h
theorem ret_val {a b : Value} (h : a = b) : Ending.returned a = .returned b := by rw [h]
set_option maxRecDepth 100000 in
set_option maxHeartbeats 2000000 in
/-- (*checker).call. -/
theorem callK_any (C bn nn : Nat) (D : DataW Unit) (t : Tr) (scope : List ByteArray) (vl fn st : Int) (nm : ByteArray) (vf : Value) (w : World) (h2 : w.cell? ⟨C, 2, none⟩ = some vf) (h3 : w.cell? ⟨C, 3, none⟩ = some (.map (some bn))) (h5 : w.cell? ⟨C, 5, none⟩ = some (.int .i64 fn)) (h6 : w.cell? ⟨C, 6, none⟩ = some (.int .i64 st))
    (hown : w.ownsMap Tryz.prog 9 (plainElem (H := Unit) Tryz.prog 2) bn nn D) (hN : NumIs D t.funcs) (hfl : t.funcs.length ≤ 1048576) (hf : Funcs w vf t.funcs) (hs : nm.size ≤ maxLen) :
    Calls Tryz.prog 153 #[.pointer (some ⟨C, 0, none⟩), .agg #[.int .i64 4, .int .i64 vl, .string nm]] w fun e w' => e = .returned (errV (nodeE t scope ⟨4, vl, nm⟩) fn st) ∧ Below w.heap.size w w' := by
  obtain ⟨af, cf, rfl, -, -, hfc⟩ := hf
  have HFC : Hid (0 < t.funcs.length → ∃ b off, af = some ⟨b, off, none⟩ ∧ FuncsC w b off t.funcs) := hfc
  have hCl : C < w.heap.size := World.block_lt_of_cell? _ _ h2
  have hA : Below w.heap.size w (w.alloc (.cells #[.int .i64 4, .int .i64 vl, .string nm] 91)).drew := ((Below.refl _ _).alloc (Nat.le_refl _) _).drew
  have HM : Hid ((w.alloc (.cells #[.int .i64 4, .int .i64 vl, .string nm] 91)).drew.ownsMap Tryz.prog 9 (plainElem (H := Unit) Tryz.prog 2) bn nn D) := map_below hown hA
  have HN : Hid (NumIs D t.funcs) := hN
  clear hfc hown hN
  cases hfn : fnum t.funcs nm with
  | none =>
    have hlook : (Instr.lookup 62 (.map (some bn)) (.string nm) true).run Tryz.prog (w.alloc (.cells #[.int .i64 4, .int .i64 vl, .string nm] 91)).drew = _ := look_no HM.out HN.out hs hfn
    have HE : Hid (nodeE t scope ⟨4, vl, nm⟩ = 4) := nodeE_nocall hfn
    have c5 := (hA.cell (p := ⟨C, 5, none⟩) hCl).trans h5
    have c6 := (hA.cell (p := ⟨C, 6, none⟩) hCl).trans h6
    clear hfn
    go_enter Tryz.func153, Tryz.ntmps153
    go_wp2_with fail
    go_region
    go_wp2_with fail
    refine (fault_any C 4 fn st _ c5 c6).mono ?_
    rintro e w1 ⟨rfl, hw⟩
    rw [hw]
    clear hw
    go_wp2_with fail
    go_ret
    exact ⟨ret_val (by rw [HE.out]; rfl), hA⟩
  | some i =>
    have hi := fnum_lt hfn
    have hlook : (Instr.lookup 62 (.map (some bn)) (.string nm) true).run Tryz.prog (w.alloc (.cells #[.int .i64 4, .int .i64 vl, .string nm] 91)).drew = _ := look_num HM.out HN.out hs hfn
    have HE : Hid (nodeE t scope ⟨4, vl, nm⟩ = if ((t.funcs[i].params.length : Nat) : Int) = vl then 0 else 6) := nodeE_call hfn hi
    obtain ⟨bf, of, rfl, hfc⟩ := HFC.out (by omega)
    obtain ⟨vp, vb, ⟨f0, f1, f2⟩, ⟨ap, cp, rfl, -⟩, -⟩ := hfc i hi
    have hbl : bf < w.heap.size := World.block_lt_of_cell? _ _ f0
    clear hfc f0 f2 hfn HFC
    generalize t.funcs[i].params.length = np at HE f1
    by_cases hv : vl = (np : Int)
    · have HE2 : Hid (nodeE t scope ⟨4, vl, nm⟩ = 0) := by show _ = _; rw [HE.out, if_pos hv.symm]
      clear HE
      subst hv
      go_enter Tryz.func153, Tryz.ntmps153
      go_wp2_with fail
      go_region
      go_wp2_with fail
      go_region
      go_wp2_with fail
      go_ret
      exact ⟨ret_val (by rw [HE2.out]; rfl), hA.drew⟩
    · have HE2 : Hid (nodeE t scope ⟨4, vl, nm⟩ = 6) := by show _ = _; rw [HE.out, if_neg (fun h => hv h.symm)]
      have c5 := (hA.drew.cell (p := ⟨C, 5, none⟩) hCl).trans h5
      have c6 := (hA.drew.cell (p := ⟨C, 6, none⟩) hCl).trans h6
      clear HE
      go_enter Tryz.func153, Tryz.ntmps153
      go_wp2_with fail
      go_region
      go_wp2_with fail
      go_region
      go_wp2_with fail
      refine (fault_any C 6 fn st _ c5 c6).mono ?_
      rintro e w1 ⟨rfl, hw⟩
      rw [hw]
      clear hw
      go_wp2_with fail
      go_ret
      exact ⟨ret_val (by rw [HE2.out]; rfl), hA.drew⟩
set_option maxRecDepth 100000 in
set_option maxHeartbeats 2000000 in
/-- (*checker).main: 0 or 3. -/
theorem mainK_any (C bn nn : Nat) (D : DataW Unit) (t : Tr) (fn st : Int) (vf : Value) (w : World) (h2 : w.cell? ⟨C, 2, none⟩ = some vf) (h3 : w.cell? ⟨C, 3, none⟩ = some (.map (some bn))) (h5 : w.cell? ⟨C, 5, none⟩ = some (.int .i64 fn)) (h6 : w.cell? ⟨C, 6, none⟩ = some (.int .i64 st))
    (hown : w.ownsMap Tryz.prog 9 (plainElem (H := Unit) Tryz.prog 2) bn nn D) (hN : NumIs D t.funcs) (hfl : t.funcs.length ≤ 1048576) (hf : Funcs w vf t.funcs) :
    Calls Tryz.prog 61 #[.pointer (some ⟨C, 0, none⟩)] w fun e w' => e = .returned (errV (match fnum t.funcs mainS with | none => 3 | some m => if (t.funcs.getD m ⟨⟨#[]⟩, [], []⟩).params.length > 0 then 3 else 0) fn st) ∧ Below w.heap.size w w' := by
  obtain ⟨af, cf, rfl, -, -, hfc⟩ := hf
  have hs : mainS.size ≤ maxLen := by unfold maxLen; decide
  cases hfn : fnum t.funcs mainS with
  | none =>
    have hlook : (Instr.lookup 62 (.map (some bn)) (.string ⟨#[109, 97, 105, 110]⟩) true).run Tryz.prog w = _ := look_no hown hN hs hfn
    clear hfn hown hN hfc
    go_enter Tryz.func61, Tryz.ntmps61
    go_wp2_with fail
    refine (fault_any C 3 fn st _ h5 h6).mono ?_
    rintro e w1 ⟨rfl, hw⟩
    rw [hw]
    clear hw
    go_wp2_with fail
    go_ret
    exact ⟨ret_val rfl, Below.refl _ _⟩
  | some i =>
    have hi := fnum_lt hfn
    have hlook : (Instr.lookup 62 (.map (some bn)) (.string ⟨#[109, 97, 105, 110]⟩) true).run Tryz.prog w = _ := look_num hown hN hs hfn
    obtain ⟨bf, of, rfl, hfd⟩ := hfc (by omega)
    obtain ⟨vp, vb, ⟨f0, f1, f2⟩, ⟨ap, cp, rfl, -⟩, -⟩ := hfd i hi
    have he : (t.funcs.getD i ⟨⟨#[]⟩, [], []⟩).params.length = t.funcs[i].params.length := by simp [List.getD, hi]
    simp only [he]
    clear hfc hfd f0 f2 hfn hown hN he
    generalize t.funcs[i].params.length = np at f1 ⊢
    by_cases hv : 0 < np
    · have HE : Hid ((if np > 0 then (3 : Int) else 0) = 3) := if_pos hv
      go_enter Tryz.func61, Tryz.ntmps61
      go_wp2_with fail
      refine (fault_any C 3 fn st _ h5 h6).mono ?_
      rintro e w1 ⟨rfl, hw⟩
      rw [hw]
      clear hw
      go_wp2_with fail
      go_ret
      exact ⟨ret_val (by first | rfl | (rw [HE.out]; rfl)), Below.refl _ _⟩
    · have HE : Hid ((if np > 0 then (3 : Int) else 0) = 0) := if_neg hv
      obtain rfl : np = 0 := by omega
      go_enter Tryz.func61, Tryz.ntmps61
      go_wp2_with fail
      go_ret
      exact ⟨ret_val (by first | rfl | (rw [HE.out]; rfl)), Below.refl _ _⟩
end
section
open Go.RowKit
/-- What is wrong with a use, off what was found. -/
def useF (o : Option Int) (arr : Bool) : Int := match o with | none => 4 | some z => if decide (z > 0) = arr then 0 else 5
set_option maxRecDepth 100000 in
set_option maxHeartbeats 2000000 in
/-- (*checker).use. -/
theorem useK_any (C B : Nat) (bs : List Nat) (fl : List (ByteArray → Option Int)) (v : Value) (s : ByteArray) (arr : Bool) (fn st : Int) (w : World) (hl : fl.length = bs.length) (hlen : bs.length ≤ 1000000) (hp : 0 < bs.length) (hs : s.size ≤ maxLen)
    (hc : w.cell? ⟨C, 0, none⟩ = some v) (h5 : w.cell? ⟨C, 5, none⟩ = some (.int .i64 fn)) (h6 : w.cell? ⟨C, 6, none⟩ = some (.int .i64 st)) (hR : BRw B w v bs) (hM : ∀ j, j < bs.length → ∃ nn D, w.ownsMap Tryz.prog 9 (plainElem (H := Unit) Tryz.prog 2) (bs[j]?.getD 0) nn D ∧ MapIs D (fl.getD j noF)) :
    Calls Tryz.prog 146 #[.pointer (some ⟨C, 0, none⟩), .string s, .bool arr] w fun e w' => e = .returned (errV (useF (findS fl s) arr) fn st) ∧ Below w.heap.size w w' := by
  have hCl : C < w.heap.size := World.block_lt_of_cell? _ _ hc
  have HFi : Hid (Calls Tryz.prog 154 #[.pointer (some ⟨C, 0, none⟩), .string s] w fun e w' => e = .returned (match findS fl s with | none => .tuple #[.int .i64 0, .bool false] | some z => .tuple #[.int .i64 z, .bool true]) ∧ Below w.heap.size w w') := findK_any C B bs fl v s w hl hlen hp hs hc hR hM
  clear hR hM hl hlen hp hs
  cases hfi : findS fl s with
  | none =>
    rw [hfi] at HFi
    go_enter Tryz.func146, Tryz.ntmps146
    go_wp2_with fail
    refine HFi.out.mono ?_
    rintro e w1 ⟨rfl, hb1⟩
    have c5 := (hb1.cell (p := ⟨C, 5, none⟩) hCl).trans h5
    have c6 := (hb1.cell (p := ⟨C, 6, none⟩) hCl).trans h6
    go_wp2_with fail
    refine (fault_any C 4 fn st _ c5 c6).mono ?_
    rintro e w2 ⟨rfl, hw⟩
    rw [hw]
    clear hw
    go_wp2_with fail
    go_ret
    exact ⟨ret_val rfl, hb1⟩
  | some z =>
    rw [hfi] at HFi
    by_cases hz : z > 0
    · cases arr
      · go_enter Tryz.func146, Tryz.ntmps146
        go_wp2_with fail
        refine HFi.out.mono ?_
        rintro e w1 ⟨rfl, hb1⟩
        have c5 := (hb1.cell (p := ⟨C, 5, none⟩) hCl).trans h5
        have c6 := (hb1.cell (p := ⟨C, 6, none⟩) hCl).trans h6
        have HE : Hid (useF (some z) false = 5) := by show _ = _; unfold useF; simp [hz]
        go_wp2_with fail
        refine (fault_any C 5 fn st _ c5 c6).mono ?_
        rintro e w2 ⟨rfl, hw⟩
        rw [hw]
        clear hw
        go_wp2_with fail
        go_ret
        exact ⟨ret_val (by rw [HE.out]; rfl), hb1⟩
      · go_enter Tryz.func146, Tryz.ntmps146
        go_wp2_with fail
        refine HFi.out.mono ?_
        rintro e w1 ⟨rfl, hb1⟩
        have HE : Hid (useF (some z) true = 0) := by show _ = _; unfold useF; simp [hz]
        go_wp2_with fail
        go_ret
        exact ⟨ret_val (by rw [HE.out]; rfl), hb1⟩
    · cases arr
      · go_enter Tryz.func146, Tryz.ntmps146
        go_wp2_with fail
        refine HFi.out.mono ?_
        rintro e w1 ⟨rfl, hb1⟩
        have HE : Hid (useF (some z) false = 0) := by show _ = _; unfold useF; simp [hz]
        go_wp2_with fail
        go_ret
        exact ⟨ret_val (by rw [HE.out]; rfl), hb1⟩
      · go_enter Tryz.func146, Tryz.ntmps146
        go_wp2_with fail
        refine HFi.out.mono ?_
        rintro e w1 ⟨rfl, hb1⟩
        have c5 := (hb1.cell (p := ⟨C, 5, none⟩) hCl).trans h5
        have c6 := (hb1.cell (p := ⟨C, 6, none⟩) hCl).trans h6
        have HE : Hid (useF (some z) true = 5) := by show _ = _; unfold useF; simp [hz]
        have hz1 : z ≤ 0 := by omega
        have hz2 : decide (0 < z) = false := by simp; omega
        have hz3 : decide (z > 0) = false := by simp; omega
        go_wp2_with fail
        refine (fault_any C 5 fn st _ c5 c6).mono ?_
        rintro e w2 ⟨rfl, hw⟩
        rw [hw]
        clear hw
        go_wp2_with fail
        go_ret
        exact ⟨ret_val (by rw [HE.out]; rfl), hb1⟩
end
section
open Go.RowKit
/-- The checker in its box C: the scopes' row, the tree's functions, the numbers, where it stands. -/
structure Ck (w : World) (C B bn nn : Nat) (D : DataW Unit) (t : Tr) (bsn : List (List ByteArray)) (bs : List Nat) (v vf : Value) (fn st : Int) : Prop where
  c0 : w.cell? ⟨C, 0, none⟩ = some v
  c2 : w.cell? ⟨C, 2, none⟩ = some vf
  c3 : w.cell? ⟨C, 3, none⟩ = some (.map (some bn))
  c5 : w.cell? ⟨C, 5, none⟩ = some (.int .i64 fn)
  c6 : w.cell? ⟨C, 6, none⟩ = some (.int .i64 st)
  row : BRw B w v bs
  len : (scopesF t.globals bsn).length = bs.length
  small : bs.length ≤ 1000000
  maps : ∀ j, j < bs.length → ∃ nn D, w.ownsMap Tryz.prog 9 (plainElem (H := Unit) Tryz.prog 2) (bs[j]?.getD 0) nn D ∧ MapIs D ((scopesF t.globals bsn).getD j noF)
  own : w.ownsMap Tryz.prog 9 (plainElem (H := Unit) Tryz.prog 2) bn nn D
  num : NumIs D t.funcs
  funcs : Funcs w vf t.funcs
theorem Ck.below {w w' : World} {C B bn nn : Nat} {D : DataW Unit} {t : Tr} {bsn : List (List ByteArray)} {bs : List Nat} {v vf : Value} {fn st : Int} (h : Ck w C B bn nn D t bsn bs v vf fn st) (hb : Below w.heap.size w w') : Ck w' C B bn nn D t bsn bs v vf fn st := by
  have hC : C < w.heap.size := World.block_lt_of_cell? _ _ h.c0
  refine ⟨(hb.cell (p := ⟨C, 0, none⟩) hC).trans h.c0, (hb.cell (p := ⟨C, 2, none⟩) hC).trans h.c2, (hb.cell (p := ⟨C, 3, none⟩) hC).trans h.c3, (hb.cell (p := ⟨C, 5, none⟩) hC).trans h.c5, (hb.cell (p := ⟨C, 6, none⟩) hC).trans h.c6, h.row.below hb, h.len, h.small, fun j hj => ?_, map_below h.own hb, h.num, h.funcs.below hb⟩
  obtain ⟨nn, D, h1, h2⟩ := h.maps j hj
  exact ⟨nn, D, map_below h1 hb, h2⟩
theorem useE_F {gs : List Gl} {bs : List (List ByteArray)} {s : ByteArray} {arr : Bool} (hp : ∀ g ∈ gs, 0 ≤ g.size) : useE gs bs.flatten s arr = useF (findS (scopesF gs bs) s) arr := by
  rw [useE_find hp]
  rfl
/-- (*checker).use, of the checker. -/
theorem useC_any {w : World} {C B bn nn : Nat} {D : DataW Unit} {t : Tr} {bsn : List (List ByteArray)} {bs : List Nat} {v vf : Value} {fn st : Int} (h : Ck w C B bn nn D t bsn bs v vf fn st) (hp : ∀ g ∈ t.globals, 0 ≤ g.size) (s : ByteArray) (hs : s.size ≤ maxLen) (arr : Bool) :
    Calls Tryz.prog 146 #[.pointer (some ⟨C, 0, none⟩), .string s, .bool arr] w fun e w' => e = .returned (errV (useE t.globals bsn.flatten s arr) fn st) ∧ Below w.heap.size w w' := by
  have hpos : 0 < bs.length := by rw [← h.len]; simp [scopesF]
  rw [useE_F hp]
  exact useK_any C B bs _ v s arr fn st w h.len h.small hpos hs h.c0 h.c5 h.c6 h.row h.maps
set_option maxRecDepth 100000 in
set_option maxHeartbeats 2000000 in
/-- (*checker).node. -/
theorem nodeK_any {w : World} {C B bn nn : Nat} {D : DataW Unit} {t : Tr} {bsn : List (List ByteArray)} {bs : List Nat} {v vf : Value} {fn st : Int} (h : Ck w C B bn nn D t bsn bs v vf fn st) (hp : ∀ g ∈ t.globals, 0 ≤ g.size) (hfl : t.funcs.length ≤ 1048576) (n : Nd) (hs : n.name.size ≤ maxLen) :
    Calls Tryz.prog 145 #[.pointer (some ⟨C, 0, none⟩), .agg #[.int .i64 n.kind, .int .i64 n.val, .string n.name]] w fun e w' => e = .returned (errV (nodeE t bsn.flatten n) fn st) ∧ Below w.heap.size w w' := by
  obtain ⟨kd, vl, nm⟩ := n
  simp only at hs ⊢
  have hA : Below w.heap.size w (w.alloc (.cells #[.int .i64 kd, .int .i64 vl, .string nm] 91)) := (Below.refl _ _).alloc (Nat.le_refl _) _
  have HK : Hid (Ck (w.alloc (.cells #[.int .i64 kd, .int .i64 vl, .string nm] 91)) C B bn nn D t bsn bs v vf fn st) := h.below hA
  clear h
  by_cases h2 : kd = 2
  · subst h2
    have HE : Hid (nodeE t bsn.flatten ⟨2, vl, nm⟩ = useE t.globals bsn.flatten nm false) := rfl
    go_enter Tryz.func145, Tryz.ntmps145
    go_wp2_with fail
    refine (useC_any HK.out hp nm hs false).mono ?_
    rintro e w1 ⟨rfl, hb1⟩
    have hB := hA.trans (hb1.mono (by simp))
    rw [← HE.out]
    obtain ⟨ev, hev⟩ : ∃ ev, ev = errV (nodeE t bsn.flatten ⟨2, vl, nm⟩) fn st := ⟨_, rfl⟩
    rw [← hev]
    have HV : Hid (ev = errV (nodeE t bsn.flatten ⟨2, vl, nm⟩) fn st) := hev
    clear hev
    go_wp2_with fail
    go_ret
    exact ⟨ret_val HV.out, hB⟩
  by_cases h3 : kd = 3
  · subst h3
    have HE : Hid (nodeE t bsn.flatten ⟨3, vl, nm⟩ = useE t.globals bsn.flatten nm true) := rfl
    go_enter Tryz.func145, Tryz.ntmps145
    go_wp2_with fail
    refine (useC_any HK.out hp nm hs true).mono ?_
    rintro e w1 ⟨rfl, hb1⟩
    have hB := hA.trans (hb1.mono (by simp))
    rw [← HE.out]
    obtain ⟨ev, hev⟩ : ∃ ev, ev = errV (nodeE t bsn.flatten ⟨3, vl, nm⟩) fn st := ⟨_, rfl⟩
    rw [← hev]
    have HV : Hid (ev = errV (nodeE t bsn.flatten ⟨3, vl, nm⟩) fn st) := hev
    clear hev
    go_wp2_with fail
    go_ret
    exact ⟨ret_val HV.out, hB⟩
  by_cases h4 : kd = 4
  · subst h4
    go_enter Tryz.func145, Tryz.ntmps145
    go_wp2_with fail
    refine (callK_any C bn nn D t bsn.flatten vl fn st nm vf _ HK.out.c2 HK.out.c3 HK.out.c5 HK.out.c6 HK.out.own HK.out.num hfl HK.out.funcs hs).mono ?_
    rintro e w1 ⟨rfl, hb1⟩
    have hB := hA.trans (hb1.mono (by simp))
    obtain ⟨ev, hev⟩ : ∃ ev, ev = errV (nodeE t bsn.flatten ⟨4, vl, nm⟩) fn st := ⟨_, rfl⟩
    rw [← hev]
    have HV : Hid (ev = errV (nodeE t bsn.flatten ⟨4, vl, nm⟩) fn st) := hev
    clear hev
    go_wp2_with fail
    go_ret
    exact ⟨ret_val HV.out, hB⟩
  · have HE : Hid (nodeE t bsn.flatten ⟨kd, vl, nm⟩ = 0) := by
      show _ = _
      unfold nodeE
      simp only
      rw [if_neg (by omega), if_neg h4]
    have b2 : (kd == 2) = false := by simpa using h2
    have b3 : (kd == 3) = false := by simpa using h3
    have b4 : (kd == 4) = false := by simpa using h4
    go_enter Tryz.func145, Tryz.ntmps145
    go_wp2_with fail
    go_ret
    exact ⟨ret_val (by rw [HE.out]; rfl), hA⟩
end
section
open Go.RowKit Go.Sort Go.Shelf
/-- The two contracts of the sort at this program. -/
theorem sortsA (m : Nat) : AnyZI.SortsIn Tryz.prog Tryz.sortedA_ren Fence.wide m :=
  ⟨fun blk off cap ss W hH hblk hsz => callsIn_wide.2 (AnyM.slices_Sort_int Tryz.sortA blk off cap ss W hH hblk hsz),
   fun p cap W => callsIn_wide.2 (AnyM.slices_Sort_int_none Tryz.sortA p cap W)⟩
theorem keys_any (mb : Option Nat) (w : World) : Calls Tryz.prog 68 #[.map mb] w fun e w' => e = .returned (.func (.func 100) #[] #[.pointer (some ⟨w.heap.size, 0, none⟩)]) ∧ w' = w.alloc (.cells #[.map mb] 120) :=
  (callsIn_wide (n := 5)).1 (AnyZI.keys_in Tryz.keysA Fence.wide 5 trivial rfl mb w)
set_option maxHeartbeats 1000000 in
theorem sorted_any (b nn : Nat) (D : DataW Unit) (R : Value → Option (DataW Unit × List MemPlace)) (w : World) (hown : w.ownsMap Tryz.prog 2 R b nn D) (hmax : Maps.size D ≤ 10000000000000) :
    Calls Tryz.prog 67 #[.func (.func 100) #[] #[.pointer (some ⟨w.heap.size, 0, none⟩)]] (w.alloc (.cells #[.map (some b)] 120)) fun e w' => ∃ (v : Value) (ss : List Int), e = .returned v ∧ ss.Perm (intKeys D) ∧
      w'.ownsRow w.heap.size 2 1 v ss.length ((ss.mergeSort leI).map (Value.int .i64)) ∧ Below w.heap.size w w' := by
  refine (callsIn_wide (n := 5)).1 ?_
  have hbl := hown.lt
  have hseq : SeqGives Fence.wide 2 Tryz.prog 100 #[.pointer (some ⟨w.heap.size, 0, none⟩)] encZ (fun ss => ss.Perm (intKeys D)) (Maps.size D) (w.alloc (.cells #[.map (some b)] 120)) :=
    AnyZI.keys_gives (ρ := Tryz.keysA_ren) { Tryz.keysA with } Fence.wide _ trivial rfl (by omega) w.heap.size b nn D _ (by simp) (by simp) (by
      obtain ⟨es, clock, hb, Ft, hs, hD⟩ := hown
      exact ⟨es, clock, (Below.heap_alloc _ _ b hbl).trans hb, Ft, hs, hD⟩)
  have cS := AnyZI.sorted_in Tryz.sortedA Fence.wide 5 trivial trivial trivial trivial rfl (by omega) (sortsA _) (enters_of Tryz.func99 (by kernel_rfl) rfl) 100 #[.pointer (some ⟨w.heap.size, 0, none⟩)] trivial (enters_of Tryz.func100 (by kernel_rfl) rfl) _ _ (by unfold maxLen; omega) (by omega) _ hseq
  change CallsIn _ _ Tryz.prog 67 _ _ _ at cS
  refine cS.mono ?_
  rintro e w' ⟨v, ss, rfl, hS, hrow, hnil, hb⟩
  exact ⟨v, ss, rfl, hS, ownsRow_base_a hrow (by simp), ((Below.refl _ w).alloc (Nat.le_refl _) _).trans (hb.mono (by simp))⟩
/-- How many entries such a map has. -/
theorem own_size {P : Program} {k : TypeId} {R : Value → Option (DataW Unit × List MemPlace)} {w : World} {b n : Nat} {D : DataW Unit} (h : w.ownsMap P k R b n D) : Maps.size D ≤ n := by
  obtain ⟨es, clock, hb, F, hs, rfl⟩ := h
  rw [Maps.size_eq, length_sorted]
  simpa using hs
end
end Go.Proofs.YtjhmgjimppflhaaGreatDoor
