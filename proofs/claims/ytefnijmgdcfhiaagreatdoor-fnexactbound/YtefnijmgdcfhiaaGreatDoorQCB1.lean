import Derived.Test.YtefnijmgdcfhiaaGreatDoorQVC
import Derived.Test.YtefnijmgdcfhiaaGreatDoorQCA0
namespace Go.Proofs.YtefnijmgdcfhiaaGreatDoor
open Go.RowKit
set_option linter.unusedVariables false
set_option linter.unusedSimpArgs false

def fnumI (fs : List Fu) (s : ByteArray) : Int := match fnum fs s with | some i => (i : Int) | none => -1
theorem fnumI_some {fs : List Fu} {s : ByteArray} {i : Nat} (h : fnum fs s = some i) : fnumI fs s = i := by unfold fnumI; rw [h]
theorem fnumI_none {fs : List Fu} {s : ByteArray} (h : fnum fs s = none) : fnumI fs s = -1 := by unfold fnumI; rw [h]

theorem ne_list {a b : ByteArray} (h : a ≠ b) : (a.toList == b.toList) = false := by
  rw [beq_eq_false_iff_ne]
  intro e
  rw [ByteArray.toList_eq, ByteArray.toList_eq] at e
  exact h (ByteArray.ext (Array.ext' e))

set_option maxRecDepth 100000 in
set_option maxHeartbeats 2000000 in
theorem l3func_any (fs : List Fu) (vg vf : Value) (s : ByteArray) (w : World) (hl : fs.length ≤ 1048576) (hf : Funcs w vf fs) :
    Calls Tryz.prog 13 #[.agg #[vg, vf], .string s] w fun e w' => e = .returned (.int .i64 (fnumI fs s)) ∧ Below w.heap.size w w' := by
  obtain ⟨af, cf, rfl, -, -, hfc⟩ := hf
  have HFC : Hid (0 < fs.length → ∃ b off, af = some ⟨b, off, none⟩ ∧ FuncsC w b off fs) := hfc
  clear hfc
  go_enter Tryz.func13, Tryz.ntmps13
  go_wp2_with fail
  go_loopw [5] (fun i wr => ∃ k : Nat, k ≤ fs.length ∧ i = .int .i64 k ∧ (∀ j (hj : j < fs.length), j < k → fs[j].name ≠ s) ∧ Below (w.heap.size + 1) (w.alloc (.cells #[vg, .slice af fs.length cf] 31)) wr) (fun i _ => fs.length - (RowKit.intOf i).toNat)
  case atStart => exact ⟨0, Nat.zero_le _, rfl, fun j hj h => absurd h (Nat.not_lt_zero _), Below.refl _ _⟩
  case round =>
    obtain ⟨k, hk, rfl, hn, hB⟩ := hrel
    have HN : Hid (∀ j (hj : j < fs.length), j < k → fs[j].name ≠ s) := hn
    clear hn
    have hBw := one_below hB
    obtain ⟨x0, x1⟩ := box2 hB
    by_cases hlt : k < fs.length
    · obtain ⟨b, off, rfl, hc⟩ := HFC.out (by omega)
      obtain ⟨vp, vb, ⟨d0, d1, d2⟩, -, -⟩ := (hc.below hBw) k hlt
      by_cases hs : fs[k].name = s
      · have HR : Hid (fnumI fs s = k) := fnumI_some (fnum_at hlt (fun j hj => HN.out j (by omega) hj) hs)
        rw [hs] at d0
        clear hc hs
        go_wp2_with fail
        go_ret
        exact ⟨ret_int HR.out.symm, hBw⟩
      · have HS : Hid (∀ j (hj : j < fs.length), j < k + 1 → fs[j].name ≠ s) := fun j hj h => by
          by_cases e : j = k
          · subst e; exact hs
          · exact HN.out j hj (by omega)
        clear hc
        have hs' := ne_list hs
        generalize fs[k].name = fn at d0 hs hs'
        go_wp2_with fail
        go_roundw
        case rel => exact ⟨k + 1, by omega, by go_num, HS.out, hB⟩
        case measure => simp [RowKit.intOf]; omega
    · have HR : Hid (fnumI fs s = -1) := fnumI_none (fnum_no (fun j hj => HN.out j hj (by omega)))
      go_wp2_with fail
      go_ret
      exact ⟨ret_int HR.out.symm, hBw⟩

end Go.Proofs.YtefnijmgdcfhiaaGreatDoor
