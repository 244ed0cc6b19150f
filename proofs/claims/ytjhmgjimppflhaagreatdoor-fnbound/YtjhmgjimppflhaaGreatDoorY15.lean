import Derived.Test.YtjhmgjimppflhaaGreatDoorY14
import Derived.Test.YtjhmgjimppflhaaGreatDoorY02
import Derived.StringKeys
import Derived.Maps.OwnOps
import Derived.Maps.OwnSet
import Derived.RegionTactic
set_option linter.unusedSectionVars false
variable [Inhabited Go.Proofs.YtjhmgjimppflhaaGreatDoor.Pick]
namespace Go.Proofs.YtjhmgjimppflhaaGreatDoor
set_option linter.unusedVariables false
set_option linter.unusedSimpArgs false
set_option maxRecDepth 100000
set_option maxHeartbeats 16000000
section
open Go.RowKit
theorem map_below {P : Program} {k : TypeId} {R : Value → Option (DataW Unit × List MemPlace)} {w w' : World} {b n : Nat} {D : DataW Unit} (h : w.ownsMap P k R b n D) (hb : Below w.heap.size w w') : w'.ownsMap P k R b n D := by
 have hlt := h.lt
 obtain ⟨es, clock, h0, F, hs, hD⟩ := h
 exact ⟨es, clock, (hb.block b hlt).trans h0, F, hs, hD⟩
theorem look_num {W : World} {b nn : Nat} {D : DataW Unit} {fs : List Fu} (hown : W.ownsMap Tryz.prog 9 (plainElem (H := Unit) Tryz.prog 2) b nn D) (hN : NumIs D fs) {s : ByteArray} (hs : s.size ≤ maxLen) {g : Nat} (h : fnum fs s = some g) :
  (Instr.lookup 62 (.map (some b)) (.string s) true).run Tryz.prog W = .ok (.tuple #[.int .i64 (g : Int), .bool true]) W := by
 obtain ⟨v, ps, hrun, hv⟩ := hown.look_ok (Maps.string_keyed Tryz.underlying9) Tryz.underlying62 (Tryz.zeroValue2 _) (plainElem_int Tryz.underlying2 (by decide)) (WideMaps.keyOf_string_mk Tryz.underlying9 hs)
 rw [hN.val s g h] at hv
 obtain ⟨c, rfl, hc, _⟩ := plainElem_int_inv Tryz.underlying2 hv
 simp only [Prod.mk.injEq, DataW.lit.injEq, Lit.int.injEq, true_and] at hc
 obtain ⟨hc, -⟩ := hc
 subst hc
 have hh := hN.has s
 rw [h] at hh
 rw [hh] at hrun
 exact hrun
theorem look_no {W : World} {b nn : Nat} {D : DataW Unit} {fs : List Fu} (hown : W.ownsMap Tryz.prog 9 (plainElem (H := Unit) Tryz.prog 2) b nn D) (hN : NumIs D fs) {s : ByteArray} (hs : s.size ≤ maxLen) (h : fnum fs s = none) :
  (Instr.lookup 62 (.map (some b)) (.string s) true).run Tryz.prog W = .ok (.tuple #[.int .i64 0, .bool false]) W := by
 obtain ⟨v, ps, hrun, hv⟩ := hown.look_ok (Maps.string_keyed Tryz.underlying9) Tryz.underlying62 (Tryz.zeroValue2 _) (plainElem_int Tryz.underlying2 (by decide)) (WideMaps.keyOf_string_mk Tryz.underlying9 hs)
 have hh := hN.has s
 rw [h] at hh
 rw [Maps.atKey_of_not_has hh] at hv
 obtain ⟨c, rfl, hc, _⟩ := plainElem_int_inv Tryz.underlying2 hv
 simp only [Prod.mk.injEq, DataW.lit.injEq, Lit.int.injEq, true_and] at hc
 obtain ⟨hc, -⟩ := hc
 subst hc
 rw [hh] at hrun
 exact hrun
set_option maxRecDepth 100000 in
set_option maxHeartbeats 2000000 in
theorem fnums_any (fs : List Fu) (vg vf : Value) (w : World) (hl : fs.length ≤ 1048576) (hw : wfFs fs) (hf : Funcs w vf fs) :
  Calls Tryz.prog 32 #[.agg #[vg, vf]] w fun e w' => ∃ b D, e = .returned (.map (some b)) ∧ w.heap.size ≤ b ∧ w'.ownsMap Tryz.prog 9 (plainElem (H := Unit) Tryz.prog 2) b fs.length D ∧ NumIs D fs ∧ Below w.heap.size w w' := by
 obtain ⟨af, cf, rfl, -, -, hfc⟩ := hf
 have HFC : Hid (0 < fs.length → ∃ b off, af = some ⟨b, off, none⟩ ∧ FuncsC w b off fs) := hfc
 have HW : Hid (wfFs fs) := hw
 clear hfc hw
 have hmm := @run_makeMap Tryz.prog
 go_enter Tryz.func32, Tryz.ntmps32
 go_wp2_with fail
 go_loopw [12] (fun i wr => ∃ (k : Nat) (D : DataW Unit), k ≤ fs.length ∧ i = .int .i64 k ∧ wr.ownsMap Tryz.prog 9 (plainElem (H := Unit) Tryz.prog 2) (w.heap.size + 1) k D ∧ NumIs D (fs.take k) ∧ Below w.heap.size w wr) (fun i _ => fs.length - (RowKit.intOf i).toNat)
 case atStart => exact ⟨0, .map [], Nat.zero_le _, rfl, by simpa using World.ownsMap_made (w.alloc _) Tryz.prog 9 _, NumIs.nil, ((Below.refl _ _).alloc (Nat.le_refl _) _).alloc (by simp) _⟩
 case round =>
  obtain ⟨k, D, hk, rfl, hM, hN, hB⟩ := hrel
  have HM : Hid (wr.ownsMap Tryz.prog 9 (plainElem (H := Unit) Tryz.prog 2) (w.heap.size + 1) k D) := hM
  have HN : Hid (NumIs D (fs.take k)) := hN
  have hlt0 := hM.lt
  clear hM hN hmm
  by_cases hlt : k < fs.length
  ·obtain ⟨b, off, rfl, hc⟩ := HFC.out (by omega)
   obtain ⟨vp, vb, ⟨d0, d1, d2⟩, ⟨ap, cp, rfl, -⟩, ⟨ab, cb, rfl, -⟩⟩ := (hc.below hB) k hlt
   generalize fs[k].params.length = np at d1
   generalize fs[k].body.length = nb at d2
   have HE : Hid (fs.take (k + 1) = fs.take k ++ [fs[k]]) := take_succ fs k hlt
   have HZ : Hid (fs[k].name.size ≤ maxLen) := by
    have := (HW.out.2 fs[k] (List.getElem_mem hlt)).1
    show _ ≤ _
    unfold maxLen; omega
   have HTl : Hid ((fs.take k).length = k) := by show _ = _; simp; omega
   clear hc
   generalize fs[k] = f at d0 d1 d2 HE HZ
   have HMa : Hid ((wr.alloc (.cells #[.string f.name, .slice ap np cp, .slice ab nb cb] 61)).ownsMap Tryz.prog 9 (plainElem (H := Unit) Tryz.prog 2) (w.heap.size + 1) k D) := HM.out.alloc _
   cases hv : fnum (fs.take k) f.name with
   | none =>
    have hlook := look_no HMa.out HN.out HZ.out hv
    have HV : Hid (Maps.has D (kS f.name) = false) := by show _ = _; rw [HN.out.has, hv]; rfl
    clear hv
    go_wp2_with (first
     | (at_mapUpdate; refine wpList_mapUpdate_own _ rfl _ _ _ 62 rfl 9 2 (Maps.string_keyed Tryz.underlying9) Tryz.underlying62 _ (w.heap.size + 1) k D rfl HMa.out (by unfold maxLen; omega) _ _ _ rfl rfl (WideMaps.keyOf_string_mk Tryz.underlying9 HZ.out) _ [] (plainElem_int Tryz.underlying2 (WalkArith.wf_i64 (by omega))) ?_; intro w1 hown1 hgrow1)
     | go_in)
    have HM1 : Hid (w1.ownsMap Tryz.prog 9 (plainElem (H := Unit) Tryz.prog 2) (w.heap.size + 1) (k + 1) (D.put (kS f.name) (.lit (.int .i64 (k : Int))))) := hown1
    have HN1 : Hid (NumIs (D.put (kS f.name) (.lit (.int .i64 (k : Int)))) (fs.take (k + 1))) := by
     have := HN.out.new HV.out
     rw [HTl.out] at this
     rw [HE.out]
     exact this
    have hB1 : Below w.heap.size w w1 := (hB.alloc hB.size _).grown hgrow1 (by have := hB.size; simp; omega) (fun j hj => by cases hj; omega)
    clear hown1 hgrow1
    go_wp2_with fail
    go_roundw
    case rel => exact ⟨k + 1, _, by omega, by go_num, HM1.out, HN1.out, hB1⟩
    case measure => simp [RowKit.intOf]; omega
   | some g =>
    have hlook := look_num HMa.out HN.out HZ.out hv
    have HV : Hid (Maps.has D (kS f.name) = true) := by show _ = _; rw [HN.out.has, hv]; rfl
    clear hv
    go_wp2_with fail
    go_roundw
    case rel => exact ⟨k + 1, D, by omega, by go_num, HMa.out.mono (by omega), by rw [HE.out]; exact HN.out.old HV.out, hB.alloc hB.size _⟩
    case measure => simp [RowKit.intOf]; omega
  ·have hkk : k = fs.length := by omega
   have HR : Hid (NumIs D fs) := by have := HN.out; rw [List.take_of_length_le (by omega)] at this; exact this
   go_wp2_with fail
   go_ret
   exact ⟨_, D, rfl, by omega, by rw [← hkk]; exact HM.out, HR.out, hB⟩
end
section
open Go.RowKit
def fnumI (fs : List Fu) (s : ByteArray) : Int := match fnum fs s with | some i => (i : Int) | none => -1
theorem fnumI_some {fs : List Fu} {s : ByteArray} {i : Nat} (h : fnum fs s = some i) : fnumI fs s = i := by unfold fnumI; rw [h]
theorem fnumI_none {fs : List Fu} {s : ByteArray} (h : fnum fs s = none) : fnumI fs s = -1 := by unfold fnumI; rw [h]
theorem ne_list {a b : ByteArray} (h : a ≠ b) : (a.toList == b.toList) = false := by
 rw [beq_eq_false_iff_ne]
 intro e
 rw [ByteArray.toList_eq, ByteArray.toList_eq] at e
 exact h (ByteArray.ext (Array.ext' e))
set_option maxRecDepth 100000 in
set_option maxHeartbeats 2000000 in
theorem l3func_any (fs : List Fu) (vg vf : Value) (s : ByteArray) (w : World) (hl : fs.length ≤ 1048576) (hf : Funcs w vf fs) :
  Calls Tryz.prog 25 #[.agg #[vg, vf], .string s] w fun e w' => e = .returned (.int .i64 (fnumI fs s)) ∧ Below w.heap.size w w' := by
 obtain ⟨af, cf, rfl, -, -, hfc⟩ := hf
 have HFC : Hid (0 < fs.length → ∃ b off, af = some ⟨b, off, none⟩ ∧ FuncsC w b off fs) := hfc
 clear hfc
 go_enter Tryz.func25, Tryz.ntmps25
 go_wp2_with fail
 go_loopw [5] (fun i wr => ∃ k : Nat, k ≤ fs.length ∧ i = .int .i64 k ∧ (∀ j (hj : j < fs.length), j < k → fs[j].name ≠ s) ∧ Below (w.heap.size + 1) (w.alloc (.cells #[vg, .slice af fs.length cf] 26)) wr) (fun i _ => fs.length - (RowKit.intOf i).toNat)
 case atStart => exact ⟨0, Nat.zero_le _, rfl, fun j hj h => absurd h (Nat.not_lt_zero _), Below.refl _ _⟩
 case round =>
  obtain ⟨k, hk, rfl, hn, hB⟩ := hrel
  have HN : Hid (∀ j (hj : j < fs.length), j < k → fs[j].name ≠ s) := hn
  clear hn
  have hBw := one_below hB
  obtain ⟨x0, x1⟩ := box2 hB
  by_cases hlt : k < fs.length
  ·obtain ⟨b, off, rfl, hc⟩ := HFC.out (by omega)
   obtain ⟨vp, vb, ⟨d0, d1, d2⟩, -, -⟩ := (hc.below hBw) k hlt
   by_cases hs : fs[k].name = s
   ·have HR : Hid (fnumI fs s = k) := fnumI_some (fnum_at hlt (fun j hj => HN.out j (by omega) hj) hs)
    rw [hs] at d0
    clear hc hs
    go_wp2_with fail
    go_ret
    exact ⟨ret_int HR.out.symm, hBw⟩
   ·have HS : Hid (∀ j (hj : j < fs.length), j < k + 1 → fs[j].name ≠ s) := fun j hj h => by
     by_cases e : j = k
     ·subst e; exact hs
     ·exact HN.out j hj (by omega)
    clear hc
    have hs' := ne_list hs
    generalize fs[k].name = fn at d0 hs hs'
    go_wp2_with fail
    go_roundw
    case rel => exact ⟨k + 1, by omega, by go_num, HS.out, hB⟩
    case measure => simp [RowKit.intOf]; omega
  ·have HR : Hid (fnumI fs s = -1) := fnumI_none (fnum_no (fun j hj => HN.out j hj (by omega)))
   go_wp2_with fail
   go_ret
   exact ⟨ret_int HR.out.symm, hBw⟩
end
section
open Go.RowKit
set_option maxRecDepth 100000 in
set_option maxHeartbeats 2000000 in
theorem lwMain_any (fs : List Fu) (vg vf : Value) (w : World) (hl : fs.length ≤ 1048576) (hf : Funcs w vf fs) :
  Calls Tryz.prog 9 #[.agg #[vg, vf]] w fun e w' => e = .returned (.int .i64 (fnumI fs mainS)) ∧ Below w.heap.size w w' := by
 obtain ⟨af, cf, rfl, -, -, hfc⟩ := hf
 have HFC : Hid (0 < fs.length → ∃ b off, af = some ⟨b, off, none⟩ ∧ FuncsC w b off fs) := hfc
 clear hfc
 go_enter Tryz.func9, Tryz.ntmps9
 go_wp2_with fail
 go_loopw [3] (fun i wr => ∃ k : Nat, k ≤ fs.length ∧ i = .int .i64 k ∧ (∀ j (hj : j < fs.length), j < k → fs[j].name ≠ mainS) ∧ Below (w.heap.size + 1) (w.alloc (.cells #[vg, .slice af fs.length cf] 26)) wr) (fun i _ => fs.length - (RowKit.intOf i).toNat)
 case atStart => exact ⟨0, Nat.zero_le _, rfl, fun j hj h => absurd h (Nat.not_lt_zero _), Below.refl _ _⟩
 case round =>
  obtain ⟨k, hk, rfl, hn, hB⟩ := hrel
  have HN : Hid (∀ j (hj : j < fs.length), j < k → fs[j].name ≠ mainS) := hn
  clear hn
  have hBw := one_below hB
  obtain ⟨x0, x1⟩ := box2 hB
  by_cases hlt : k < fs.length
  ·obtain ⟨b, off, rfl, hc⟩ := HFC.out (by omega)
   obtain ⟨vp, vb, ⟨d0, d1, d2⟩, -, -⟩ := (hc.below hBw) k hlt
   by_cases hs : fs[k].name = mainS
   ·have HR : Hid (fnumI fs mainS = k) := fnumI_some (fnum_at hlt (fun j hj => HN.out j (by omega) hj) hs)
    rw [hs, show mainS = (⟨#[109, 97, 105, 110]⟩ : ByteArray) from rfl] at d0
    clear hc hs
    go_wp2_with fail
    go_ret
    exact ⟨ret_int HR.out.symm, hBw⟩
   ·have HS : Hid (∀ j (hj : j < fs.length), j < k + 1 → fs[j].name ≠ mainS) := fun j hj h => by
     by_cases e : j = k
     ·subst e; exact hs
     ·exact HN.out j hj (by omega)
    clear hc
    have hs' := ne_list hs
    have hs2 : (fs[k].name.toList == [109, 97, 105, 110]) = false := by
     have e : mainS.toList = [109, 97, 105, 110] := by rw [ByteArray.toList_eq]; rfl
     rw [e] at hs'
     exact hs'
    rw [show mainS = (⟨#[109, 97, 105, 110]⟩ : ByteArray) from rfl] at hs'
    generalize fs[k].name = fn at d0 hs hs' hs2
    go_wp2_with fail
    go_roundw
    case rel => exact ⟨k + 1, by omega, by go_num, HS.out, hB⟩
    case measure => simp [RowKit.intOf]; omega
  ·have HR : Hid (fnumI fs mainS = -1) := fnumI_none (fnum_no (fun j hj => HN.out j hj (by omega)))
   go_wp2_with fail
   go_ret
   exact ⟨ret_int HR.out.symm, hBw⟩
end
section
open Go.RowKit
set_option maxRecDepth 100000 in
set_option maxHeartbeats 2000000 in
theorem l3in_any (xs : List ByteArray) (v : Value) (s : ByteArray) (w : World) (hl : xs.length ≤ 10000000) (hx : Strs w v xs) :
  Calls Tryz.prog 51 #[v, .string s] w fun e w' => e = .returned (.bool (inS xs s)) ∧ Below w.heap.size w w' := by
 obtain ⟨a, c, rfl, -, -, hc⟩ := hx
 have HC : Hid (0 < xs.length → ∃ b off, a = some ⟨b, off, none⟩ ∧ StrsC w b off xs) := hc
 clear hc
 go_enter Tryz.func51, Tryz.ntmps51
 go_wp2_with fail
 go_loopw [5] (fun i wr => ∃ k : Nat, k ≤ xs.length ∧ i = .int .i64 k ∧ (∀ j (hj : j < xs.length), j < k → xs[j] ≠ s) ∧ Below w.heap.size w wr) (fun i _ => xs.length - (RowKit.intOf i).toNat)
 case atStart => exact ⟨0, Nat.zero_le _, rfl, fun j hj h => absurd h (Nat.not_lt_zero _), Below.refl _ _⟩
 case round =>
  obtain ⟨k, hk, rfl, hn, hB⟩ := hrel
  have HN : Hid (∀ j (hj : j < xs.length), j < k → xs[j] ≠ s) := hn
  clear hn
  by_cases hlt : k < xs.length
  ·obtain ⟨b, off, rfl, hc⟩ := HC.out (by omega)
   have d0 := (hc.below hB) k hlt
   by_cases hs : xs[k] = s
   ·have HR : Hid (inS xs s = true) := inS_at hlt hs
    rw [hs] at d0
    clear hc hs
    go_wp2_with fail
    go_ret
    exact ⟨ret_bool HR.out.symm, hB⟩
   ·have HS : Hid (∀ j (hj : j < xs.length), j < k + 1 → xs[j] ≠ s) := fun j hj h => by
     by_cases e : j = k
     ·subst e; exact hs
     ·exact HN.out j hj (by omega)
    clear hc
    have hs' := ne_list hs
    generalize xs[k] = fn at d0 hs hs'
    go_wp2_with fail
    go_roundw
    case rel => exact ⟨k + 1, by omega, by go_num, HS.out, hB⟩
    case measure => simp [RowKit.intOf]; omega
  ·have HR : Hid (inS xs s = false) := inS_no (fun j hj => HN.out j hj (by omega))
   go_wp2_with fail
   go_ret
   exact ⟨ret_bool HR.out.symm, hB⟩
set_option maxRecDepth 100000 in
set_option maxHeartbeats 2000000 in
theorem l3global_any (gs : List Gl) (vg vf : Value) (s : ByteArray) (w : World) (hl : gs.length ≤ 1048576) (hg : Globs w vg gs) :
  Calls Tryz.prog 52 #[.agg #[vg, vf], .string s] w fun e w' => e = .returned (.int .i64 (globI gs s)) ∧ Below w.heap.size w w' := by
 obtain ⟨ag, cg, rfl, -, -, hgc⟩ := hg
 have HGC : Hid (0 < gs.length → ∃ b off, ag = some ⟨b, off, none⟩ ∧ GlobsC w b off gs) := hgc
 clear hgc
 go_enter Tryz.func52, Tryz.ntmps52
 go_wp2_with fail
 go_loopw [5] (fun i wr => ∃ k : Nat, k ≤ gs.length ∧ i = .int .i64 k ∧ (∀ j (hj : j < gs.length), j < k → gs[j].name ≠ s) ∧ Below (w.heap.size + 1) (w.alloc (.cells #[.slice ag gs.length cg, vf] 26)) wr) (fun i _ => gs.length - (RowKit.intOf i).toNat)
 case atStart => exact ⟨0, Nat.zero_le _, rfl, fun j hj h => absurd h (Nat.not_lt_zero _), Below.refl _ _⟩
 case round =>
  obtain ⟨k, hk, rfl, hn, hB⟩ := hrel
  have HN : Hid (∀ j (hj : j < gs.length), j < k → gs[j].name ≠ s) := hn
  clear hn
  have hBw := one_below hB
  obtain ⟨x0, x1⟩ := box2 hB
  by_cases hlt : k < gs.length
  ·obtain ⟨b, off, rfl, hc⟩ := HGC.out (by omega)
   obtain ⟨d0, d1⟩ := (hc.below hBw) k hlt
   by_cases hs : gs[k].name = s
   ·have HR : Hid (globI gs s = gs[k].size) := globI_at hlt (fun j hj => HN.out j (by omega) hj) hs
    rw [hs] at d0
    clear hc hs
    generalize gs[k].size = z at d1 HR
    go_wp2_with fail
    go_ret
    exact ⟨ret_int HR.out.symm, hBw⟩
   ·have HS : Hid (∀ j (hj : j < gs.length), j < k + 1 → gs[j].name ≠ s) := fun j hj h => by
     by_cases e : j = k
     ·subst e; exact hs
     ·exact HN.out j hj (by omega)
    clear hc d1
    have hs' := ne_list hs
    generalize gs[k].name = fn at d0 hs hs'
    go_wp2_with fail
    go_roundw
    case rel => exact ⟨k + 1, by omega, by go_num, HS.out, hB⟩
    case measure => simp [RowKit.intOf]; omega
  ·have HR : Hid (globI gs s = -1) := globI_no (fun j hj => HN.out j hj (by omega))
   go_wp2_with fail
   go_ret
   exact ⟨ret_int HR.out.symm, hBw⟩
theorem useE_of {gs : List Gl} {scope : List ByteArray} {s : ByteArray} {arr : Bool} {z : Int} (h : (if inS scope s then 0 else globI gs s) = z) : useE gs scope s arr = if z < 0 then 4 else if decide (z > 0) = arr then 0 else 5 := by
 unfold useE
 rw [h]
set_option maxRecDepth 100000 in
set_option maxHeartbeats 2000000 in
theorem l3use_any (gs : List Gl) (scope : List ByteArray) (vg vf vs : Value) (s : ByteArray) (arr : Bool) (w : World) (hl : gs.length ≤ 1048576) (hsl : scope.length ≤ 10000000) (hf : ∃ a n c, vf = .slice a n c) (hg : Globs w vg gs) (hs : Strs w vs scope) :
  Calls Tryz.prog 85 #[.agg #[vg, vf], vs, .string s, .bool arr] w fun e w' => e = .returned (.int .i64 (useE gs scope s arr)) ∧ Below w.heap.size w w' := by
 have HG : Hid (Globs w vg gs) := hg
 have HS : Hid (Strs w vs scope) := hs
 obtain ⟨af, nf, cf, rfl⟩ := hf
 obtain ⟨ag, cg, rfl, -, -, -⟩ := hg
 obtain ⟨az, cz, rfl, -, -, -⟩ := hs
 go_enter Tryz.func85, Tryz.ntmps85
 go_wp2_with fail
 have hA : Below w.heap.size w (w.alloc (.cells #[.slice ag gs.length cg, .slice af nf cf] 26)) := (Below.refl _ _).alloc (Nat.le_refl _) _
 refine (l3in_any scope _ s _ hsl (HS.out.below hA)).mono ?_
 rintro e w1 ⟨rfl, hb1⟩
 simp only [World.size_alloc] at hb1
 have hB1 := one_below hb1
 obtain ⟨x0, x1⟩ := box2 hb1
 by_cases hin : inS scope s = true
 ·have HU : Hid (useE gs scope s arr = if arr = false then 0 else 5) := by
   show _ = _
   rw [useE_of (show (if inS scope s = true then (0 : Int) else globI gs s) = 0 by rw [if_pos hin])]
   cases arr <;> rfl
  rw [hin]
  clear hin
  cases arr
  ·go_wp2_with fail
   go_ret
   exact ⟨ret_int HU.out.symm, hB1⟩
  ·go_wp2_with fail
   go_ret
   exact ⟨ret_int HU.out.symm, hB1⟩
 ·have hin' : inS scope s = false := by simpa using hin
  have HU : Hid (useE gs scope s arr = if globI gs s < 0 then 4 else if decide (globI gs s > 0) = arr then 0 else 5) := useE_of (by rw [if_neg hin])
  rw [hin']
  clear hin hin'
  go_wp2_with fail
  refine (l3global_any gs _ _ s _ hl (HG.out.below hB1)).mono ?_
  rintro e w2 ⟨rfl, hb2⟩
  have hB2 := hB1.trans (hb2.mono hB1.size)
  generalize globI gs s = z at HU ⊢
  clear x0 x1 hb1 hb2 hA
  by_cases h0 : z < 0
  ·have HU2 : Hid (useE gs scope s arr = 4) := by show _ = _; rw [HU.out, if_pos h0]
   clear HU
   go_wp2_with fail
   go_ret
   exact ⟨ret_int HU2.out.symm, hB2⟩
  ·by_cases h1 : z > 0
   ·have HU2 : Hid (useE gs scope s arr = if arr = true then 0 else 5) := by show _ = _; rw [HU.out, if_neg h0, decide_eq_true h1]; cases arr <;> rfl
    clear HU
    cases arr
    ·go_wp2_with fail
     go_ret
     exact ⟨ret_int HU2.out.symm, hB2⟩
    ·go_wp2_with fail
     go_ret
     exact ⟨ret_int HU2.out.symm, hB2⟩
   ·obtain rfl : z = 0 := by omega
    have HU2 : Hid (useE gs scope s arr = if arr = false then 0 else 5) := by show _ = _; rw [HU.out]; cases arr <;> rfl
    clear HU h0 h1
    cases arr
    ·go_wp2_with fail
     go_ret
     exact ⟨ret_int HU2.out.symm, hB2⟩
    ·go_wp2_with fail
     go_ret
     exact ⟨ret_int HU2.out.symm, hB2⟩
end
section
open Go.RowKit
theorem box3K {w w' : World} {t : TypeId} {a b c : Value} (h : Below (w.heap.size + 1) (w.alloc (.cells #[a, b, c] t)) w') :
  w'.cell? ⟨w.heap.size, 0, none⟩ = some a ∧ w'.cell? ⟨w.heap.size, 1, none⟩ = some b ∧ w'.cell? ⟨w.heap.size, 2, none⟩ = some c := by
 refine ⟨?_, ?_, ?_⟩ <;> (rw [h.cell (by simp)]; simp)
theorem nodeE_call {t : Tr} {scope : List ByteArray} {vl : Int} {nm : ByteArray} {i : Nat} (h : fnum t.funcs nm = some i) (hi : i < t.funcs.length) : nodeE t scope ⟨4, vl, nm⟩ = if ((t.funcs[i].params.length : Nat) : Int) = vl then 0 else 6 := by
 unfold nodeE
 simp only
 rw [if_neg (by omega), if_pos trivial, h]
 simp [List.getD, hi]
theorem nodeE_nocall {t : Tr} {scope : List ByteArray} {vl : Int} {nm : ByteArray} (h : fnum t.funcs nm = none) : nodeE t scope ⟨4, vl, nm⟩ = 4 := by
 unfold nodeE
 simp only
 rw [if_neg (by omega), if_pos trivial, h]
set_option maxRecDepth 100000 in
set_option maxHeartbeats 4000000 in
theorem l3expr_any (t : Tr) (scope : List ByteArray) (ns : List Nd) (vg vf vs ve : Value) (w : World) (hgl : t.globals.length ≤ 1048576) (hfl : t.funcs.length ≤ 1048576) (hsl : scope.length ≤ 10000000) (hnl : ns.length ≤ 1048576)
  (hg : Globs w vg t.globals) (hf : Funcs w vf t.funcs) (hs : Strs w vs scope) (hn : Nodes w ve ns) :
  Calls Tryz.prog 84 #[.agg #[vg, vf], vs, ve] w fun e w' => e = .returned (.int .i64 (exprE t scope ns)) ∧ Below w.heap.size w w' := by
 have HG : Hid (Globs w vg t.globals) := hg
 have HF : Hid (Funcs w vf t.funcs) := hf
 have HS : Hid (Strs w vs scope) := hs
 obtain ⟨ag, cg, rfl, -, -, -⟩ := hg
 obtain ⟨af, cf, rfl, -, -, hfc⟩ := hf
 obtain ⟨az, cz, rfl, -, -, -⟩ := hs
 obtain ⟨an, cn, rfl, -, -, hnc⟩ := hn
 have HFC : Hid (0 < t.funcs.length → ∃ b off, af = some ⟨b, off, none⟩ ∧ FuncsC w b off t.funcs) := hfc
 have HNC : Hid (0 < ns.length → ∃ b off, an = some ⟨b, off, none⟩ ∧ NodesC w b off ns) := hnc
 clear hfc hnc
 obtain ⟨ng, hng⟩ : ∃ ng, ng = t.globals.length := ⟨_, rfl⟩
 go_enter Tryz.func84, Tryz.ntmps84
 go_wp2_with fail
 clear hng
 go_loopw [7] (fun i wr => ∃ k : Nat, k ≤ ns.length ∧ i = .int .i64 k ∧ (∀ j (hj : j < ns.length), j < k → nodeE t scope ns[j] = 0) ∧ Below (w.heap.size + 1) (w.alloc (.cells #[.slice ag t.globals.length cg, .slice af t.funcs.length cf] 26)) wr) (fun i _ => ns.length - (RowKit.intOf i).toNat)
 case atStart => exact ⟨0, Nat.zero_le _, rfl, fun j hj h => absurd h (Nat.not_lt_zero _), Below.refl _ _⟩
 case round =>
  obtain ⟨k, hk, rfl, hz, hB⟩ := hrel
  have HN : Hid (∀ j (hj : j < ns.length), j < k → nodeE t scope ns[j] = 0) := hz
  clear hz
  have hBw := one_below hB
  obtain ⟨x0, x1⟩ := box2 hB
  have hxl : w.heap.size < wr.heap.size := by have := hB.size; simp at this; omega
  by_cases hlt : k < ns.length
  ·obtain ⟨b, off, rfl, hc⟩ := HNC.out (by omega)
   obtain ⟨d0, d1, d2⟩ := (hc.below hBw) k hlt
   have HZ : Hid (nodeE t scope ns[k] ≠ 0 → exprE t scope ns = nodeE t scope ns[k]) := fun h => exprE_at hlt (fun j hj => HN.out j (by omega) hj) h
   have HX : Hid (nodeE t scope ns[k] = 0 → ∀ j (hj : j < ns.length), j < k + 1 → nodeE t scope ns[j] = 0) := fun h j hj hjk => by
    by_cases e : j = k
    ·subst e; exact h
    ·exact HN.out j hj (by omega)
   clear hc HN
   generalize ns[k] = n at d0 d1 d2 HZ HX
   obtain ⟨kd, vl, nm⟩ := n
   simp only at d0 d1 d2
   have hA : Below w.heap.size w (wr.alloc (.cells #[.int .i64 kd, .int .i64 vl, .string nm] 91)) := hBw.trans (((Below.refl _ _).alloc (Nat.le_refl _) _).mono hBw.size)
   by_cases hk23 : kd = 2 ∨ kd = 3
   ·have HE : Hid (nodeE t scope ⟨kd, vl, nm⟩ = useE t.globals scope nm (decide (kd = 3))) := by
     show _ = _
     unfold nodeE
     simp only
     rw [if_pos hk23]
    rcases hk23 with rfl | rfl
    all_goals
     go_wp2_with fail
     refine (l3use_any t.globals scope _ _ _ nm _ _ hgl hsl ⟨_, _, _, rfl⟩ (HG.out.below hA) (HS.out.below hA)).mono ?_
     rintro e w2 ⟨rfl, hb2⟩
     simp only [World.size_alloc] at hb2
     obtain ⟨y0, y1, y2⟩ := box3K hb2
     have hB2 : Below (w.heap.size + 1) (w.alloc (.cells #[.slice ag t.globals.length cg, .slice af t.funcs.length cf] 26)) w2 := hB.trans ((one_below hb2).mono (by omega))
     clear d0 d1 d2 x0 x1 hA
     first
      | (have HE2 : Hid (nodeE t scope ⟨2, vl, nm⟩ = useE t.globals scope nm false) := HE.out; clear HE; generalize useE t.globals scope nm false = z at HE2 ⊢)
      | (have HE2 : Hid (nodeE t scope ⟨3, vl, nm⟩ = useE t.globals scope nm true) := HE.out; clear HE; generalize useE t.globals scope nm true = z at HE2 ⊢)
     by_cases hz : z = 0
     ·subst hz
      go_wp2_with fail
      go_roundw
      case rel => exact ⟨k + 1, by omega, by go_num, HX.out HE2.out, hB2⟩
      case measure => simp [RowKit.intOf]; omega
     ·go_wp2_with fail
      go_ret
      exact ⟨ret_int (by rw [HZ.out (by rw [HE2.out]; exact hz), HE2.out]), one_below hB2⟩
   ·by_cases hk4 : kd = 4
    ·subst hk4
     clear hk23
     go_wp2_with fail
     refine (l3func_any t.funcs _ _ nm _ hfl (HF.out.below hA)).mono ?_
     rintro e w2 ⟨rfl, hb2⟩
     simp only [World.size_alloc] at hb2
     obtain ⟨y0, y1, y2⟩ := box3K hb2
     have hB2 : Below (w.heap.size + 1) (w.alloc (.cells #[.slice ag t.globals.length cg, .slice af t.funcs.length cf] 26)) w2 := hB.trans ((one_below hb2).mono (by omega))
     clear d0 d1 d2 x0 x1 hA
     obtain ⟨x0, x1⟩ := box2 hB2
     cases hfn : fnum t.funcs nm with
     | none =>
      have HE : Hid (nodeE t scope ⟨4, vl, nm⟩ = 4) := nodeE_nocall hfn
      rw [fnumI_none hfn]
      clear hfn
      go_wp2_with fail
      go_ret
      exact ⟨ret_int (by rw [HZ.out (by rw [HE.out]; omega), HE.out]), one_below hB2⟩
     | some i =>
      have hi := fnum_lt hfn
      have HE : Hid (nodeE t scope ⟨4, vl, nm⟩ = if ((t.funcs[i].params.length : Nat) : Int) = vl then 0 else 6) := nodeE_call hfn hi
      rw [fnumI_some hfn]
      clear hfn
      obtain ⟨bf, of, rfl, hfc⟩ := HFC.out (by omega)
      obtain ⟨vp, vb, ⟨f0, f1, f2⟩, ⟨ap, cp, rfl, -⟩, -⟩ := (hfc.below (one_below hB2)) i hi
      clear hfc f0 f2
      generalize t.funcs[i].params.length = np at HE f1
      by_cases hv : (np : Int) = vl
      ·have HE2 : Hid (nodeE t scope ⟨4, vl, nm⟩ = 0) := by show _ = _; rw [HE.out, if_pos hv]
       clear HE
       subst hv
       go_wp2_with fail
       go_region
       go_wp2_with fail
       go_roundw
       case rel => exact ⟨k + 1, by omega, by go_num, HX.out HE2.out, hB2.drew⟩
       case measure => simp [RowKit.intOf]; omega
      ·have HE2 : Hid (nodeE t scope ⟨4, vl, nm⟩ = 6) := by show _ = _; rw [HE.out, if_neg hv]
       clear HE
       go_wp2_with fail
       go_region
       go_wp2_with fail
       go_ret
       exact ⟨ret_int (by rw [HZ.out (by rw [HE2.out]; omega), HE2.out]), one_below hB2.drew⟩
    ·have HE : Hid (nodeE t scope ⟨kd, vl, nm⟩ = 0) := by
      show _ = _
      unfold nodeE
      simp only
      rw [if_neg hk23, if_neg hk4]
     have h2 : ¬ kd = 2 := fun h => hk23 (.inl h)
     have h3 : ¬ kd = 3 := fun h => hk23 (.inr h)
     have b2 : (kd == 2) = false := by simpa using h2
     have b3 : (kd == 3) = false := by simpa using h3
     have b4 : (kd == 4) = false := by simpa using hk4
     clear hk23
     go_wp2_with fail
     go_roundw
     case rel => exact ⟨k + 1, by omega, by go_num, HX.out HE.out, hB.trans (((Below.refl _ _).alloc (Nat.le_refl _) _).mono (by omega))⟩
     case measure => simp [RowKit.intOf]; omega
  ·have HR : Hid (exprE t scope ns = 0) := exprE_zero (fun j hj => HN.out j hj (by omega))
   go_wp2_with fail
   go_ret
   exact ⟨ret_int HR.out.symm, hBw⟩
end
end Go.Proofs.YtjhmgjimppflhaaGreatDoor
