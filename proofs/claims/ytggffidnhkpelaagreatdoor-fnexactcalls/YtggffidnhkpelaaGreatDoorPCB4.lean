import Derived.Test.YtggffidnhkpelaaGreatDoorPCB3
import Derived.Test.YtggffidnhkpelaaGreatDoorPCA4
import Derived.Test.YtggffidnhkpelaaGreatDoorPVF
namespace Go.Proofs.YtggffidnhkpelaaGreatDoor
open Go.RowKit
set_option linter.unusedVariables false
set_option linter.unusedSimpArgs false

set_option maxRecDepth 100000 in
set_option maxHeartbeats 4000000 in
theorem callsG_any (t : Tr) (vg vf : Value) (z : Int) (w : World) (ht : smallT t) (hg : Globs w vg t.globals) (hf : Funcs w vf t.funcs) :
    Calls Tryz.prog 5 #[.agg #[vg, vf], .int .i64 z] w fun e w' => ∃ v, e = .returned v ∧ Ints w' v ((callsF t z).map (fun g : Nat => (g : Int))) ∧ Below w.heap.size w w' := by
  have HS : Hid (smallT t) := ht
  have HG : Hid (Globs w vg t.globals) := hg
  have HF : Hid (Funcs w vf t.funcs) := hf
  have hfl : t.funcs.length ≤ 1048576 := ht.2.1
  obtain ⟨ag, cg, rfl, -⟩ := hg
  obtain ⟨af, cf, rfl, -, -, -⟩ := hf
  clear ht
  have hA : Below w.heap.size w (w.alloc (.cells #[.slice ag t.globals.length cg, .slice af t.funcs.length cf] 32)) := (Below.refl _ _).alloc (Nat.le_refl _) _
  go_enter Tryz.func5, Tryz.ntmps5
  go_wp2_with fail
  refine (gtree_any t _ _ _ HS.out (HG.out.below hA) (HF.out.below hA)).mono ?_
  rintro e w1 ⟨rfl, hb1⟩
  simp only [World.size_alloc] at hb1
  have hB1 := one_below hb1
  obtain ⟨x0, x1⟩ := box2 hb1
  cases hv : treeB t
  · have HR : Hid (callsF t z = []) := callsF_no (.inr (.inr hv))
    clear hv
    go_wp2_with fail
    go_ret
    exact ⟨_, rfl, by rw [HR.out]; exact (irow_lit w1 _ (Nat.le_refl _)).ints, hB1.alloc hB1.size _⟩
  · go_wp2_with fail
    refine (in_any _ _ _ _).mono ?_
    rintro e w2 ⟨rfl, rfl⟩
    by_cases hz : 0 ≤ z ∧ z ≤ (t.funcs.length : Int) - 1
    · rw [decide_eq_true hz]
      obtain ⟨k, rfl⟩ : ∃ k : Nat, z = (k : Int) := ⟨z.toNat, by omega⟩
      have hk : k < t.funcs.length := by omega
      have HR : Hid (callsF t (k : Int) = callsL t.funcs t.funcs[k].body) := callsF_yes hk hv
      have HSf : Hid (smallF t.funcs[k]) := HS.out.2.2 _ (List.getElem_mem hk)
      clear hv hz
      go_wp2_with fail
      refine (l3calls_any t.funcs _ _ k _ hk hfl HSf.out ⟨_, _, _, rfl⟩ (HF.out.below hB1)).mono ?_
      rintro e w3 ⟨v3, rfl, hi3, hb3⟩
      have HI3 : Hid (Ints w3 v3 ((callsL t.funcs t.funcs[k].body).map (fun g : Nat => (g : Int)))) := hi3
      have hB3 := hB1.trans (hb3.mono hB1.size)
      clear hi3 hb3
      go_wp2_with fail
      go_ret
      exact ⟨v3, rfl, by rw [HR.out]; exact HI3.out, hB3⟩
    · rw [decide_eq_false hz]
      have HR : Hid (callsF t z = []) := callsF_no (by omega)
      clear hv hz
      go_wp2_with fail
      go_ret
      exact ⟨_, rfl, by rw [HR.out]; exact (irow_lit _ _ (Nat.le_refl _)).ints, hB1.alloc hB1.size _⟩

end Go.Proofs.YtggffidnhkpelaaGreatDoor
