import Derived.Test.YtdkpinbkmjoicaaIe
namespace Go.Proofs.Ytdkpinbkmjoicaa
open Go.RowKit
set_option linter.unusedVariables false
set_option linter.unusedSimpArgs false
theorem tabH (op : Int) (h : 18 ≤ op ∧ op ≤ 20) : tabA[op.toNat]? = some (.iface 92 (.agg #[.int .u32 (oc op), .int .u32 (f3 op), .int .u32 (f7 op)])) := by
  obtain ⟨n, rfl⟩ : ∃ n : Nat, op = n := ⟨op.toNat, by omega⟩
  have h1 : n = 18 ∨ n = 19 ∨ n = 20 := by omega
  rcases h1 with rfl | rfl | rfl
  all_goals rfl
theorem mwH (a b c : Int) (W : World) : (method 235 92 (.agg #[.int .u32 a, .int .u32 b, .int .u32 c]) "loop.example/s01725/impl.word").run Try.prog W = .ok (115, .agg #[.int .u32 a, .int .u32 b, .int .u32 c]) W := by kernel_rfl
theorem miH (a b c : Int) (W : World) : (method 235 92 (.agg #[.int .u32 a, .int .u32 b, .int .u32 c]) "loop.example/s01725/impl.inst").run Try.prog W = .ok (114, .agg #[.int .u32 a, .int .u32 b, .int .u32 c]) W := by kernel_rfl
set_option maxRecDepth 100000 in
set_option maxHeartbeats 2000000 in
theorem ieH (op rd s1 s2 im : Int) (w : World) (h : 18 ≤ op ∧ op ≤ 20) (R : Int) (hR1 : vH rd s1 s2 im = true → R = oc op + rd % 32 * 128 + f3 op * 4096 + s1 % 32 * 32768 + im % 32 * 1048576 + f7 op * 33554432) (hR0 : ¬ vH rd s1 s2 im = true → R = 0) :
    Calls Try.prog 6 #[.agg #[.int .i64 op, .int .i64 rd, .int .i64 s1, .int .i64 s2, .int .i64 im]] w fun e w' => e = .returned (.int .u32 R) ∧ Below w.heap.size w w' := by
  have HH : Hid _ := h
  have hr1 : 1 ≤ op := by omega
  have hr2 : op ≤ 34 := by omega
  have hr0 : 0 ≤ op := by omega
  have hr3 : op < 35 := by omega
  obtain ⟨X, hX⟩ : ∃ X, X = oc op + rd % 32 * 128 + f3 op * 4096 + s1 % 32 * 32768 + im % 32 * 1048576 + f7 op * 33554432 := ⟨_, rfl⟩
  have hrt := rtH (oc op) (f3 op) (f7 op) rd s1 s2 im X (oc_bd op) (f3_bd op) (f7_bd op) hX
  obtain ⟨b1, hb1⟩ : ∃ b, b = X / 128 % 32 := ⟨_, rfl⟩
  obtain ⟨b2, hb2⟩ : ∃ b, b = X / 32768 % 32 := ⟨_, rfl⟩
  obtain ⟨b4, hb4⟩ : ∃ b, b = X / 1048576 % 32 := ⟨_, rfl⟩
  rw [← hb1, ← hb2, ← hb4] at hrt
  have HRT : Hid _ := hrt.2
  have HI : Hid (∀ W : World, Calls Try.prog 114 #[.agg #[.int .u32 (oc op), .int .u32 (f3 op), .int .u32 (f7 op)], .int .u32 X] W fun e w' => e = .returned (.agg #[.int .i64 0, .int .i64 b1, .int .i64 b2, .int .i64 0, .int .i64 b4]) ∧ Below W.heap.size W w') := by
    intro W
    rw [hb1, hb2, hb4]
    exact instH _ _ _ X W hrt.1
  have HW : Hid (∀ W : World, Calls Try.prog 115 #[.agg #[.int .u32 (oc op), .int .u32 (f3 op), .int .u32 (f7 op)], .agg #[.int .i64 op, .int .i64 rd, .int .i64 s1, .int .i64 s2, .int .i64 im]] W fun e w' => e = .returned (.int .u32 X) ∧ Below W.heap.size W w') := by
    intro W
    rw [hX]
    exact wordH _ _ _ _ _ _ _ _ W (oc_bd op) (f3_bd op) (f7_bd op)
  have HR1 : Hid (vH rd s1 s2 im = true → X = R) := fun hv => by rw [hR1 hv, hX]
  have HR0 : Hid (¬ vH rd s1 s2 im = true → 0 = R) := fun hv => (hR0 hv).symm
  have mw := mwH (oc op) (f3 op) (f7 op)
  have mi := miH (oc op) (f3 op) (f7 op)
  clear h hrt hX hR1 hR0 hb1 hb2 hb4
  go_enter Try.func6, Try.ntmps6
  go_wp2_with fail
  refine (opShapes_any _).mono ?_
  rintro e w1 ⟨rfl, hb1⟩
  simp only [World.size_alloc] at hb1
  have z1 := hb1.size
  simp only [World.size_alloc] at z1
  go_wp2_with (refine store_tab rfl _ _ rfl w1 rfl rfl rfl ?_; intro W2 hT hB2 hs2; have hb12 := hb1.trans (hB2.mono z1); have k2 := box5' hb12; have t2 := (hT op.toNat (by omega)).trans (tabH op HH.out); clear hT hB2 hb1)
  simp only [Act.put]
  go_region_held3 (fun W => W.cell? ⟨w.heap.size, 0, none⟩ = some (.int .i64 op) ∧ W.cell? ⟨w.heap.size, 1, none⟩ = some (.int .i64 rd) ∧ W.cell? ⟨w.heap.size, 2, none⟩ = some (.int .i64 s1) ∧ W.cell? ⟨w.heap.size, 3, none⟩ = some (.int .i64 s2) ∧ W.cell? ⟨w.heap.size, 4, none⟩ = some (.int .i64 im) ∧
      W.cell? ⟨w1.heap.size, op.toNat, none⟩ = some (.iface 92 (.agg #[.int .u32 (oc op), .int .u32 (f3 op), .int .u32 (f7 op)]))) (go_simp)
    (first
    | (go_at_call 115; refine (HW.out _).mono ?_; rintro e w3 ⟨rfl, hb3⟩; have q3 := six_later (W := W2.drew) hb3 k2 t2))
  go_wp2_with fail
  refine (HI.out _).mono ?_
  rintro e w4 ⟨rfl, hb4⟩
  have q4 := six_later hb4 q3.1 q3.2
  have z3 : W2.heap.size ≤ w3.heap.size := hb3.size
  have z4 : w.heap.size < w4.heap.size := by have := hb4.size; omega
  have HB : Hid (Below w.heap.size w w4) := (((Below.refl _ _).alloc (Nat.le_refl w.heap.size) _).trans (hb12.mono (by omega))).trans (((below_drew' W2).trans hb3).mono (by omega) |>.trans (hb4.mono (by omega)))
  clear q3 hb3 hb4 hb12 k2 t2 HI HW
  go_wp2
  all_goals go_ret
  all_goals refine ⟨ret_int ?_, ?_⟩
  all_goals first
    | exact HR1.out (HRT.out.1 (by omega))
    | exact HR0.out (fun hv => by have := HRT.out.2 hv; omega)
    | exact HB.out.alloc (by omega) _
theorem tabS (op : Int) (h : op = 11) : tabA[op.toNat]? = some (.iface 90 (.agg #[.int .u32 (oc op), .int .u32 (f3 op)])) := by
  subst h
  rfl
theorem mwS (a b : Int) (W : World) : (method 235 90 (.agg #[.int .u32 a, .int .u32 b]) "loop.example/s01725/impl.word").run Try.prog W = .ok (113, .agg #[.int .u32 a, .int .u32 b]) W := by kernel_rfl
theorem miS (a b : Int) (W : World) : (method 235 90 (.agg #[.int .u32 a, .int .u32 b]) "loop.example/s01725/impl.inst").run Try.prog W = .ok (112, .agg #[.int .u32 a, .int .u32 b]) W := by kernel_rfl
set_option maxRecDepth 100000 in
set_option maxHeartbeats 2000000 in
theorem ieS (op rd s1 s2 im : Int) (w : World) (h : op = 11) (R : Int) (hR1 : vS rd s1 s2 im = true → R = oc op + im % 32 * 128 + f3 op * 4096 + s1 % 32 * 32768 + s2 % 32 * 1048576 + im / 32 % 128 * 33554432) (hR0 : ¬ vS rd s1 s2 im = true → R = 0) :
    Calls Try.prog 6 #[.agg #[.int .i64 op, .int .i64 rd, .int .i64 s1, .int .i64 s2, .int .i64 im]] w fun e w' => e = .returned (.int .u32 R) ∧ Below w.heap.size w w' := by
  have HH : Hid _ := h
  have hr1 : 1 ≤ op := by omega
  have hr2 : op ≤ 34 := by omega
  have hr0 : 0 ≤ op := by omega
  have hr3 : op < 35 := by omega
  obtain ⟨X, hX⟩ : ∃ X, X = oc op + im % 32 * 128 + f3 op * 4096 + s1 % 32 * 32768 + s2 % 32 * 1048576 + im / 32 % 128 * 33554432 := ⟨_, rfl⟩
  have hrt := rtS (oc op) (f3 op) rd s1 s2 im X (oc_bd op) (f3_bd op) hX
  obtain ⟨b2, hb2⟩ : ∃ b, b = X / 32768 % 32 := ⟨_, rfl⟩
  obtain ⟨b3, hb3⟩ : ∃ b, b = X / 1048576 % 32 := ⟨_, rfl⟩
  obtain ⟨b4, hb4⟩ : ∃ b, b = sg (X / 128 % 32 + X / 33554432 % 128 * 32) 2048 4096 := ⟨_, rfl⟩
  rw [← hb2, ← hb3, ← hb4] at hrt
  have HRT : Hid _ := hrt.2
  have HI : Hid (∀ W : World, Calls Try.prog 112 #[.agg #[.int .u32 (oc op), .int .u32 (f3 op)], .int .u32 X] W fun e w' => e = .returned (.agg #[.int .i64 0, .int .i64 0, .int .i64 b2, .int .i64 b3, .int .i64 b4]) ∧ Below W.heap.size W w') := by
    intro W
    rw [hb2, hb3, hb4]
    exact instS _ _ X W hrt.1
  have HW : Hid (∀ W : World, Calls Try.prog 113 #[.agg #[.int .u32 (oc op), .int .u32 (f3 op)], .agg #[.int .i64 op, .int .i64 rd, .int .i64 s1, .int .i64 s2, .int .i64 im]] W fun e w' => e = .returned (.int .u32 X) ∧ Below W.heap.size W w') := by
    intro W
    rw [hX]
    exact wordS _ _ _ _ _ _ _ W (oc_bd op) (f3_bd op)
  have HR1 : Hid (vS rd s1 s2 im = true → X = R) := fun hv => by rw [hR1 hv, hX]
  have HR0 : Hid (¬ vS rd s1 s2 im = true → 0 = R) := fun hv => (hR0 hv).symm
  have mw := mwS (oc op) (f3 op)
  have mi := miS (oc op) (f3 op)
  clear h hrt hX hR1 hR0 hb2 hb3 hb4
  go_enter Try.func6, Try.ntmps6
  go_wp2_with fail
  refine (opShapes_any _).mono ?_
  rintro e w1 ⟨rfl, hb1⟩
  simp only [World.size_alloc] at hb1
  have z1 := hb1.size
  simp only [World.size_alloc] at z1
  go_wp2_with (refine store_tab rfl _ _ rfl w1 rfl rfl rfl ?_; intro W2 hT hB2 hs2; have hb12 := hb1.trans (hB2.mono z1); have k2 := box5' hb12; have t2 := (hT op.toNat (by omega)).trans (tabS op HH.out); clear hT hB2 hb1)
  simp only [Act.put]
  go_region_held3 (fun W => W.cell? ⟨w.heap.size, 0, none⟩ = some (.int .i64 op) ∧ W.cell? ⟨w.heap.size, 1, none⟩ = some (.int .i64 rd) ∧ W.cell? ⟨w.heap.size, 2, none⟩ = some (.int .i64 s1) ∧ W.cell? ⟨w.heap.size, 3, none⟩ = some (.int .i64 s2) ∧ W.cell? ⟨w.heap.size, 4, none⟩ = some (.int .i64 im) ∧
      W.cell? ⟨w1.heap.size, op.toNat, none⟩ = some (.iface 90 (.agg #[.int .u32 (oc op), .int .u32 (f3 op)]))) (go_simp)
    (first
    | (go_at_call 113; refine (HW.out _).mono ?_; rintro e w3 ⟨rfl, hb3⟩; have q3 := six_later (W := W2.drew) hb3 k2 t2))
  go_wp2_with fail
  refine (HI.out _).mono ?_
  rintro e w4 ⟨rfl, hb4⟩
  have q4 := six_later hb4 q3.1 q3.2
  have z3 : W2.heap.size ≤ w3.heap.size := hb3.size
  have z4 : w.heap.size < w4.heap.size := by have := hb4.size; omega
  have HB : Hid (Below w.heap.size w w4) := (((Below.refl _ _).alloc (Nat.le_refl w.heap.size) _).trans (hb12.mono (by omega))).trans (((below_drew' W2).trans hb3).mono (by omega) |>.trans (hb4.mono (by omega)))
  clear q3 hb3 hb4 hb12 k2 t2 HI HW
  go_wp2
  all_goals go_ret
  all_goals refine ⟨ret_int ?_, ?_⟩
  all_goals first
    | exact HR1.out (HRT.out.1 (by omega))
    | exact HR0.out (fun hv => by have := HRT.out.2 hv; omega)
    | exact HB.out.alloc (by omega) _
end Go.Proofs.Ytdkpinbkmjoicaa
