import Derived.Test.YtplkgkgekgdnmaaIe
namespace Go.Proofs.Ytplkgkgekgdnmaa
open Go.RowKit
set_option linter.unusedVariables false
set_option linter.unusedSimpArgs false
theorem tabJ (op : Int) (h : op = 2) : tabA[op.toNat]? = some (.iface 87 (.agg #[.int .u32 (oc op)])) := by
  subst h
  rfl
theorem mwJ (a : Int) (W : World) : (method 237 87 (.agg #[.int .u32 a]) "loop.example/s01725/impl.word").run Try.prog W = .ok (105, .agg #[.int .u32 a]) W := by kernel_rfl
theorem miJ (a : Int) (W : World) : (method 237 87 (.agg #[.int .u32 a]) "loop.example/s01725/impl.inst").run Try.prog W = .ok (104, .agg #[.int .u32 a]) W := by kernel_rfl
set_option maxRecDepth 100000 in
set_option maxHeartbeats 2000000 in
theorem ieJ (op rd s1 s2 im : Int) (w : World) (h : op = 2) (R : Int) (hR1 : vJ rd s1 s2 im = true → R = oc op + rd % 32 * 128 + im / 4096 % 256 * 4096 + im / 2048 % 2 * 1048576 + im / 2 % 1024 * 2097152 + im / 1048576 % 2 * 2147483648) (hR0 : ¬ vJ rd s1 s2 im = true → R = 0) :
    Calls Try.prog 13 #[.agg #[.int .i64 op, .int .i64 rd, .int .i64 s1, .int .i64 s2, .int .i64 im]] w fun e w' => e = .returned (.int .u32 R) ∧ Below w.heap.size w w' := by
  have HH : Hid _ := h
  have hr1 : 1 ≤ op := by omega
  have hr2 : op ≤ 34 := by omega
  have hr0 : 0 ≤ op := by omega
  have hr3 : op < 35 := by omega
  obtain ⟨X, hX⟩ : ∃ X, X = oc op + rd % 32 * 128 + im / 4096 % 256 * 4096 + im / 2048 % 2 * 1048576 + im / 2 % 1024 * 2097152 + im / 1048576 % 2 * 2147483648 := ⟨_, rfl⟩
  have hrt := rtJ (oc op) rd s1 s2 im X (oc_bd op) hX
  obtain ⟨b1, hb1⟩ : ∃ b, b = X / 128 % 32 := ⟨_, rfl⟩
  obtain ⟨b4, hb4⟩ : ∃ b, b = sg (X / 2097152 % 1024 * 2 + X / 1048576 % 2 * 2048 + X / 4096 % 256 * 4096 + X / 2147483648 % 2 * 1048576) 1048576 2097152 := ⟨_, rfl⟩
  rw [← hb1, ← hb4] at hrt
  have HRT : Hid _ := hrt.2
  have HI : Hid (∀ W : World, Calls Try.prog 104 #[.agg #[.int .u32 (oc op)], .int .u32 X] W fun e w' => e = .returned (.agg #[.int .i64 0, .int .i64 b1, .int .i64 0, .int .i64 0, .int .i64 b4]) ∧ Below W.heap.size W w') := by
    intro W
    rw [hb1, hb4]
    exact instJ _ X W hrt.1
  have HW : Hid (∀ W : World, Calls Try.prog 105 #[.agg #[.int .u32 (oc op)], .agg #[.int .i64 op, .int .i64 rd, .int .i64 s1, .int .i64 s2, .int .i64 im]] W fun e w' => e = .returned (.int .u32 X) ∧ Below W.heap.size W w') := by
    intro W
    rw [hX]
    exact wordJ _ _ _ _ _ _ W (oc_bd op)
  have HR1 : Hid (vJ rd s1 s2 im = true → X = R) := fun hv => by rw [hR1 hv, hX]
  have HR0 : Hid (¬ vJ rd s1 s2 im = true → 0 = R) := fun hv => (hR0 hv).symm
  have mw := mwJ (oc op)
  have mi := miJ (oc op)
  clear h hrt hX hR1 hR0 hb1 hb4
  go_enter Try.func13, Try.ntmps13
  go_wp2_with fail
  refine (opShapes_any _).mono ?_
  rintro e w1 ⟨rfl, hb1⟩
  simp only [World.size_alloc] at hb1
  have z1 := hb1.size
  simp only [World.size_alloc] at z1
  go_wp2_with (refine store_tab rfl _ _ rfl w1 rfl rfl rfl ?_; intro W2 hT hB2 hs2; have hb12 := hb1.trans (hB2.mono z1); have k2 := box5' hb12; have t2 := (hT op.toNat (by omega)).trans (tabJ op HH.out); clear hT hB2 hb1)
  simp only [Act.put]
  go_region_held3 (fun W => W.cell? ⟨w.heap.size, 0, none⟩ = some (.int .i64 op) ∧ W.cell? ⟨w.heap.size, 1, none⟩ = some (.int .i64 rd) ∧ W.cell? ⟨w.heap.size, 2, none⟩ = some (.int .i64 s1) ∧ W.cell? ⟨w.heap.size, 3, none⟩ = some (.int .i64 s2) ∧ W.cell? ⟨w.heap.size, 4, none⟩ = some (.int .i64 im) ∧
      W.cell? ⟨w1.heap.size, op.toNat, none⟩ = some (.iface 87 (.agg #[.int .u32 (oc op)]))) (go_simp)
    (first
    | (go_at_call 105; refine (HW.out _).mono ?_; rintro e w3 ⟨rfl, hb3⟩; have q3 := six_later (W := W2.drew) hb3 k2 t2))
  go_wp2_with fail
  refine (HI.out _).mono ?_
  rintro e w4 ⟨rfl, hb4⟩
  have q4 := six_later hb4 q3.1 q3.2
  have z3 : W2.heap.size ≤ w3.heap.size := hb3.size
  have z4 : w.heap.size < w4.heap.size := by have := hb4.size; omega
  have HB : Hid (Below w.heap.size w w4) := (((Below.refl _ _).alloc (Nat.le_refl w.heap.size) _).trans (hb12.mono (by omega))).trans (((below_drew' W2).trans hb3).mono (by omega) |>.trans (hb4.mono (by omega)))
  clear q3 hb3 hb4 hb12 k2 t2 HI HW
  go_wp2
  all_goals go_ret
  all_goals refine ⟨ret_int ?_, ?_⟩
  all_goals first
    | exact HR1.out (HRT.out.1 (by omega))
    | exact HR0.out (fun hv => by have := HRT.out.2 hv; omega)
    | exact HB.out.alloc (by omega) _
theorem tabE (op : Int) (h : op = 34) : tabA[op.toNat]? = some (.iface 95 (.agg #[.int .u32 (oc op)])) := by
  subst h
  rfl
theorem mwE (a : Int) (W : World) : (method 237 95 (.agg #[.int .u32 a]) "loop.example/s01725/impl.word").run Try.prog W = .ok (123, .agg #[.int .u32 a]) W := by kernel_rfl
theorem miE (a : Int) (W : World) : (method 237 95 (.agg #[.int .u32 a]) "loop.example/s01725/impl.inst").run Try.prog W = .ok (122, .agg #[.int .u32 a]) W := by kernel_rfl
set_option maxRecDepth 100000 in
set_option maxHeartbeats 2000000 in
theorem ieE (op rd s1 s2 im : Int) (w : World) (h : op = 34) (R : Int) (hR1 : vE rd s1 s2 im = true → R = oc op) (hR0 : ¬ vE rd s1 s2 im = true → R = 0) :
    Calls Try.prog 13 #[.agg #[.int .i64 op, .int .i64 rd, .int .i64 s1, .int .i64 s2, .int .i64 im]] w fun e w' => e = .returned (.int .u32 R) ∧ Below w.heap.size w w' := by
  have HH : Hid _ := h
  have hr1 : 1 ≤ op := by omega
  have hr2 : op ≤ 34 := by omega
  have hr0 : 0 ≤ op := by omega
  have hr3 : op < 35 := by omega
  obtain ⟨X, hX⟩ : ∃ X, X = oc op := ⟨_, rfl⟩
  have hrt := rtE (oc op) rd s1 s2 im X (oc_bd op) hX
  have HRT : Hid _ := hrt.2
  have HI : Hid (∀ W : World, Calls Try.prog 122 #[.agg #[.int .u32 (oc op)], .int .u32 X] W fun e w' => e = .returned (.agg #[.int .i64 0, .int .i64 0, .int .i64 0, .int .i64 0, .int .i64 0]) ∧ Below W.heap.size W w') := by
    intro W
    skip
    exact instE _ X W hrt.1
  have HW : Hid (∀ W : World, Calls Try.prog 123 #[.agg #[.int .u32 (oc op)], .agg #[.int .i64 op, .int .i64 rd, .int .i64 s1, .int .i64 s2, .int .i64 im]] W fun e w' => e = .returned (.int .u32 X) ∧ Below W.heap.size W w') := by
    intro W
    rw [hX]
    exact wordE _ _ _ _ _ _ W (oc_bd op)
  have HR1 : Hid (vE rd s1 s2 im = true → X = R) := fun hv => by rw [hR1 hv, hX]
  have HR0 : Hid (¬ vE rd s1 s2 im = true → 0 = R) := fun hv => (hR0 hv).symm
  have mw := mwE (oc op)
  have mi := miE (oc op)
  clear h hrt hX hR1 hR0 
  go_enter Try.func13, Try.ntmps13
  go_wp2_with fail
  refine (opShapes_any _).mono ?_
  rintro e w1 ⟨rfl, hb1⟩
  simp only [World.size_alloc] at hb1
  have z1 := hb1.size
  simp only [World.size_alloc] at z1
  go_wp2_with (refine store_tab rfl _ _ rfl w1 rfl rfl rfl ?_; intro W2 hT hB2 hs2; have hb12 := hb1.trans (hB2.mono z1); have k2 := box5' hb12; have t2 := (hT op.toNat (by omega)).trans (tabE op HH.out); clear hT hB2 hb1)
  simp only [Act.put]
  go_region_held3 (fun W => W.cell? ⟨w.heap.size, 0, none⟩ = some (.int .i64 op) ∧ W.cell? ⟨w.heap.size, 1, none⟩ = some (.int .i64 rd) ∧ W.cell? ⟨w.heap.size, 2, none⟩ = some (.int .i64 s1) ∧ W.cell? ⟨w.heap.size, 3, none⟩ = some (.int .i64 s2) ∧ W.cell? ⟨w.heap.size, 4, none⟩ = some (.int .i64 im) ∧
      W.cell? ⟨w1.heap.size, op.toNat, none⟩ = some (.iface 95 (.agg #[.int .u32 (oc op)]))) (go_simp)
    (first
    | (go_at_call 123; refine (HW.out _).mono ?_; rintro e w3 ⟨rfl, hb3⟩; have q3 := six_later (W := W2.drew) hb3 k2 t2))
  go_wp2_with fail
  refine (HI.out _).mono ?_
  rintro e w4 ⟨rfl, hb4⟩
  have q4 := six_later hb4 q3.1 q3.2
  have z3 : W2.heap.size ≤ w3.heap.size := hb3.size
  have z4 : w.heap.size < w4.heap.size := by have := hb4.size; omega
  have HB : Hid (Below w.heap.size w w4) := (((Below.refl _ _).alloc (Nat.le_refl w.heap.size) _).trans (hb12.mono (by omega))).trans (((below_drew' W2).trans hb3).mono (by omega) |>.trans (hb4.mono (by omega)))
  clear q3 hb3 hb4 hb12 k2 t2 HI HW
  go_wp2
  all_goals go_ret
  all_goals refine ⟨ret_int ?_, ?_⟩
  all_goals first
    | exact HR1.out (HRT.out.1 (by omega))
    | exact HR0.out (fun hv => by have := HRT.out.2 hv; omega)
    | exact HB.out.alloc (by omega) _
end Go.Proofs.Ytplkgkgekgdnmaa
