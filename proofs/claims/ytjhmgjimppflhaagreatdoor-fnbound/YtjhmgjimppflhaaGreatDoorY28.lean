import Derived.Test.YtjhmgjimppflhaaGreatDoorY15
import Derived.Test.YtjhmgjimppflhaaGreatDoorY26
set_option linter.unusedSectionVars false
variable [Inhabited Go.Proofs.YtjhmgjimppflhaaGreatDoor.Pick]
namespace Go.Proofs.YtjhmgjimppflhaaGreatDoor
set_option linter.unusedVariables false
set_option linter.unusedSimpArgs false
set_option maxRecDepth 100000
set_option maxHeartbeats 16000000
section
open Go.RowKit
def errV (e fn st : Int) : Value := if e = 0 then .nilIface else .iface 51 (.agg #[.int .i64 e, .int .i64 fn, .int .i64 st])
theorem errV_zero (fn st : Int) : errV 0 fn st = .nilIface := rfl
theorem errV_ne {e fn st : Int} (h : e ≠ 0) : errV e fn st = .iface 51 (.agg #[.int .i64 e, .int .i64 fn, .int .i64 st]) := if_neg h
theorem ret_val {a b : Value} (h : a = b) : Ending.returned a = .returned b := by rw [h]
set_option maxRecDepth 100000 in
set_option maxHeartbeats 2000000 in
theorem callK_any (C bn nn : Nat) (D : DataW Unit) (t : Tr) (scope : List ByteArray) (vl fn st : Int) (nm : ByteArray) (vf : Value) (w : World) (h2 : w.cell? ⟨C, 2, none⟩ = some vf) (h3 : w.cell? ⟨C, 3, none⟩ = some (.map (some bn))) (h5 : w.cell? ⟨C, 5, none⟩ = some (.int .i64 fn)) (h6 : w.cell? ⟨C, 6, none⟩ = some (.int .i64 st))
  (hown : w.ownsMap Tryz.prog 9 (plainElem (H := Unit) Tryz.prog 2) bn nn D) (hN : NumIs D t.funcs) (hfl : t.funcs.length ≤ 1048576) (hf : Funcs w vf t.funcs) (hs : nm.size ≤ maxLen) :
  Calls Tryz.prog 153 #[.pointer (some ⟨C, 0, none⟩), .agg #[.int .i64 4, .int .i64 vl, .string nm]] w fun e w' => e = .returned (errV (nodeE t scope ⟨4, vl, nm⟩) fn st) ∧ Below w.heap.size w w' := by
 obtain ⟨af, cf, rfl, -, -, hfc⟩ := hf
 have HFC : Hid (0 < t.funcs.length → ∃ b off, af = some ⟨b, off, none⟩ ∧ FuncsC w b off t.funcs) := hfc
 have hCl : C < w.heap.size := World.block_lt_of_cell? _ _ h2
 have hA : Below w.heap.size w (w.alloc (.cells #[.int .i64 4, .int .i64 vl, .string nm] 91)).drew := ((Below.refl _ _).alloc (Nat.le_refl _) _).drew
 have HM : Hid ((w.alloc (.cells #[.int .i64 4, .int .i64 vl, .string nm] 91)).drew.ownsMap Tryz.prog 9 (plainElem (H := Unit) Tryz.prog 2) bn nn D) := map_below hown hA
 have HN : Hid (NumIs D t.funcs) := hN
 clear hfc hown hN
 cases hfn : fnum t.funcs nm with
 | none =>
  have hlook : (Instr.lookup 62 (.map (some bn)) (.string nm) true).run Tryz.prog (w.alloc (.cells #[.int .i64 4, .int .i64 vl, .string nm] 91)).drew = _ := look_no HM.out HN.out hs hfn
  have HE : Hid (nodeE t scope ⟨4, vl, nm⟩ = 4) := nodeE_nocall hfn
  have c5 := (hA.cell (p := ⟨C, 5, none⟩) hCl).trans h5
  have c6 := (hA.cell (p := ⟨C, 6, none⟩) hCl).trans h6
  clear hfn
  go_enter Tryz.func153, Tryz.ntmps153
  go_wp2_with fail
  go_region
  go_wp2_with fail
  refine (fault_any C 4 fn st _ c5 c6).mono ?_
  rintro e w1 ⟨rfl, hw⟩
  rw [hw]
  clear hw
  go_wp2_with fail
  go_ret
  exact ⟨ret_val (by rw [HE.out]; rfl), hA⟩
 | some i =>
  have hi := fnum_lt hfn
  have hlook : (Instr.lookup 62 (.map (some bn)) (.string nm) true).run Tryz.prog (w.alloc (.cells #[.int .i64 4, .int .i64 vl, .string nm] 91)).drew = _ := look_num HM.out HN.out hs hfn
  have HE : Hid (nodeE t scope ⟨4, vl, nm⟩ = if ((t.funcs[i].params.length : Nat) : Int) = vl then 0 else 6) := nodeE_call hfn hi
  obtain ⟨bf, of, rfl, hfc⟩ := HFC.out (by omega)
  obtain ⟨vp, vb, ⟨f0, f1, f2⟩, ⟨ap, cp, rfl, -⟩, -⟩ := hfc i hi
  have hbl : bf < w.heap.size := World.block_lt_of_cell? _ _ f0
  clear hfc f0 f2 hfn HFC
  generalize t.funcs[i].params.length = np at HE f1
  by_cases hv : vl = (np : Int)
  ·have HE2 : Hid (nodeE t scope ⟨4, vl, nm⟩ = 0) := by show _ = _; rw [HE.out, if_pos hv.symm]
   clear HE
   subst hv
   go_enter Tryz.func153, Tryz.ntmps153
   go_wp2_with fail
   go_region
   go_wp2_with fail
   go_region
   go_wp2_with fail
   go_ret
   exact ⟨ret_val (by rw [HE2.out]; rfl), hA.drew⟩
  ·have HE2 : Hid (nodeE t scope ⟨4, vl, nm⟩ = 6) := by show _ = _; rw [HE.out, if_neg (fun h => hv h.symm)]
   have c5 := (hA.drew.cell (p := ⟨C, 5, none⟩) hCl).trans h5
   have c6 := (hA.drew.cell (p := ⟨C, 6, none⟩) hCl).trans h6
   clear HE
   go_enter Tryz.func153, Tryz.ntmps153
   go_wp2_with fail
   go_region
   go_wp2_with fail
   go_region
   go_wp2_with fail
   refine (fault_any C 6 fn st _ c5 c6).mono ?_
   rintro e w1 ⟨rfl, hw⟩
   rw [hw]
   clear hw
   go_wp2_with fail
   go_ret
   exact ⟨ret_val (by rw [HE2.out]; rfl), hA.drew⟩
set_option maxRecDepth 100000 in
set_option maxHeartbeats 2000000 in
theorem mainK_any (C bn nn : Nat) (D : DataW Unit) (t : Tr) (fn st : Int) (vf : Value) (w : World) (h2 : w.cell? ⟨C, 2, none⟩ = some vf) (h3 : w.cell? ⟨C, 3, none⟩ = some (.map (some bn))) (h5 : w.cell? ⟨C, 5, none⟩ = some (.int .i64 fn)) (h6 : w.cell? ⟨C, 6, none⟩ = some (.int .i64 st))
  (hown : w.ownsMap Tryz.prog 9 (plainElem (H := Unit) Tryz.prog 2) bn nn D) (hN : NumIs D t.funcs) (hfl : t.funcs.length ≤ 1048576) (hf : Funcs w vf t.funcs) :
  Calls Tryz.prog 61 #[.pointer (some ⟨C, 0, none⟩)] w fun e w' => e = .returned (errV (match fnum t.funcs mainS with | none => 3 | some m => if (t.funcs.getD m ⟨⟨#[]⟩, [], []⟩).params.length > 0 then 3 else 0) fn st) ∧ Below w.heap.size w w' := by
 obtain ⟨af, cf, rfl, -, -, hfc⟩ := hf
 have hs : mainS.size ≤ maxLen := by unfold maxLen; decide
 cases hfn : fnum t.funcs mainS with
 | none =>
  have hlook : (Instr.lookup 62 (.map (some bn)) (.string ⟨#[109, 97, 105, 110]⟩) true).run Tryz.prog w = _ := look_no hown hN hs hfn
  clear hfn hown hN hfc
  go_enter Tryz.func61, Tryz.ntmps61
  go_wp2_with fail
  refine (fault_any C 3 fn st _ h5 h6).mono ?_
  rintro e w1 ⟨rfl, hw⟩
  rw [hw]
  clear hw
  go_wp2_with fail
  go_ret
  exact ⟨ret_val rfl, Below.refl _ _⟩
 | some i =>
  have hi := fnum_lt hfn
  have hlook : (Instr.lookup 62 (.map (some bn)) (.string ⟨#[109, 97, 105, 110]⟩) true).run Tryz.prog w = _ := look_num hown hN hs hfn
  obtain ⟨bf, of, rfl, hfd⟩ := hfc (by omega)
  obtain ⟨vp, vb, ⟨f0, f1, f2⟩, ⟨ap, cp, rfl, -⟩, -⟩ := hfd i hi
  have he : (t.funcs.getD i ⟨⟨#[]⟩, [], []⟩).params.length = t.funcs[i].params.length := by simp [List.getD, hi]
  simp only [he]
  clear hfc hfd f0 f2 hfn hown hN he
  generalize t.funcs[i].params.length = np at f1 ⊢
  by_cases hv : 0 < np
  ·have HE : Hid ((if np > 0 then (3 : Int) else 0) = 3) := if_pos hv
   go_enter Tryz.func61, Tryz.ntmps61
   go_wp2_with fail
   refine (fault_any C 3 fn st _ h5 h6).mono ?_
   rintro e w1 ⟨rfl, hw⟩
   rw [hw]
   clear hw
   go_wp2_with fail
   go_ret
   exact ⟨ret_val (by first | rfl | (rw [HE.out]; rfl)), Below.refl _ _⟩
  ·have HE : Hid ((if np > 0 then (3 : Int) else 0) = 0) := if_neg hv
   obtain rfl : np = 0 := by omega
   go_enter Tryz.func61, Tryz.ntmps61
   go_wp2_with fail
   go_ret
   exact ⟨ret_val (by first | rfl | (rw [HE.out]; rfl)), Below.refl _ _⟩
end
end Go.Proofs.YtjhmgjimppflhaaGreatDoor
