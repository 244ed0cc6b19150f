import Derived.Test.YtplkgkgekgdnmaaIe
namespace Go.Proofs.Ytplkgkgekgdnmaa
open Go.RowKit
set_option linter.unusedVariables false
set_option linter.unusedSimpArgs false
theorem tabR (op : Int) (h : 21 ≤ op ∧ op ≤ 33) : tabA[op.toNat]? = some (.iface 94 (.agg #[.int .u32 (oc op), .int .u32 (f3 op), .int .u32 (f7 op)])) := by
  obtain ⟨n, rfl⟩ : ∃ n : Nat, op = n := ⟨op.toNat, by omega⟩
  have h1 : n = 21 ∨ n = 22 ∨ n = 23 ∨ n = 24 ∨ n = 25 ∨ n = 26 ∨ n = 27 ∨ n = 28 ∨ n = 29 ∨ n = 30 ∨ n = 31 ∨ n = 32 ∨ n = 33 := by omega
  rcases h1 with rfl | rfl | rfl | rfl | rfl | rfl | rfl | rfl | rfl | rfl | rfl | rfl | rfl
  all_goals rfl
theorem mwR (a b c : Int) (W : World) : (method 237 94 (.agg #[.int .u32 a, .int .u32 b, .int .u32 c]) "loop.example/s01725/impl.word").run Try.prog W = .ok (121, .agg #[.int .u32 a, .int .u32 b, .int .u32 c]) W := by kernel_rfl
theorem miR (a b c : Int) (W : World) : (method 237 94 (.agg #[.int .u32 a, .int .u32 b, .int .u32 c]) "loop.example/s01725/impl.inst").run Try.prog W = .ok (120, .agg #[.int .u32 a, .int .u32 b, .int .u32 c]) W := by kernel_rfl
set_option maxRecDepth 100000 in
set_option maxHeartbeats 2000000 in
theorem ieR (op rd s1 s2 im : Int) (w : World) (h : 21 ≤ op ∧ op ≤ 33) (R : Int) (hR1 : vR rd s1 s2 im = true → R = oc op + rd % 32 * 128 + f3 op * 4096 + s1 % 32 * 32768 + s2 % 32 * 1048576 + f7 op * 33554432) (hR0 : ¬ vR rd s1 s2 im = true → R = 0) :
    Calls Try.prog 13 #[.agg #[.int .i64 op, .int .i64 rd, .int .i64 s1, .int .i64 s2, .int .i64 im]] w fun e w' => e = .returned (.int .u32 R) ∧ Below w.heap.size w w' := by
  have HH : Hid _ := h
  have hr1 : 1 ≤ op := by omega
  have hr2 : op ≤ 34 := by omega
  have hr0 : 0 ≤ op := by omega
  have hr3 : op < 35 := by omega
  obtain ⟨X, hX⟩ : ∃ X, X = oc op + rd % 32 * 128 + f3 op * 4096 + s1 % 32 * 32768 + s2 % 32 * 1048576 + f7 op * 33554432 := ⟨_, rfl⟩
  have hrt := rtR (oc op) (f3 op) (f7 op) rd s1 s2 im X (oc_bd op) (f3_bd op) (f7_bd op) hX
  obtain ⟨b1, hb1⟩ : ∃ b, b = X / 128 % 32 := ⟨_, rfl⟩
  obtain ⟨b2, hb2⟩ : ∃ b, b = X / 32768 % 32 := ⟨_, rfl⟩
  obtain ⟨b3, hb3⟩ : ∃ b, b = X / 1048576 % 32 := ⟨_, rfl⟩
  rw [← hb1, ← hb2, ← hb3] at hrt
  have HRT : Hid _ := hrt.2
  have HI : Hid (∀ W : World, Calls Try.prog 120 #[.agg #[.int .u32 (oc op), .int .u32 (f3 op), .int .u32 (f7 op)], .int .u32 X] W fun e w' => e = .returned (.agg #[.int .i64 0, .int .i64 b1, .int .i64 b2, .int .i64 b3, .int .i64 0]) ∧ Below W.heap.size W w') := by
    intro W
    rw [hb1, hb2, hb3]
    exact instR _ _ _ X W hrt.1
  have HW : Hid (∀ W : World, Calls Try.prog 121 #[.agg #[.int .u32 (oc op), .int .u32 (f3 op), .int .u32 (f7 op)], .agg #[.int .i64 op, .int .i64 rd, .int .i64 s1, .int .i64 s2, .int .i64 im]] W fun e w' => e = .returned (.int .u32 X) ∧ Below W.heap.size W w') := by
    intro W
    rw [hX]
    exact wordR _ _ _ _ _ _ _ _ W (oc_bd op) (f3_bd op) (f7_bd op)
  have HR1 : Hid (vR rd s1 s2 im = true → X = R) := fun hv => by rw [hR1 hv, hX]
  have HR0 : Hid (¬ vR rd s1 s2 im = true → 0 = R) := fun hv => (hR0 hv).symm
  have mw := mwR (oc op) (f3 op) (f7 op)
  have mi := miR (oc op) (f3 op) (f7 op)
  clear h hrt hX hR1 hR0 hb1 hb2 hb3
  go_enter Try.func13, Try.ntmps13
  go_wp2_with fail
  refine (opShapes_any _).mono ?_
  rintro e w1 ⟨rfl, hb1⟩
  simp only [World.size_alloc] at hb1
  have z1 := hb1.size
  simp only [World.size_alloc] at z1
  go_wp2_with (refine store_tab rfl _ _ rfl w1 rfl rfl rfl ?_; intro W2 hT hB2 hs2; have hb12 := hb1.trans (hB2.mono z1); have k2 := box5' hb12; have t2 := (hT op.toNat (by omega)).trans (tabR op HH.out); clear hT hB2 hb1)
  simp only [Act.put]
  go_region_held3 (fun W => W.cell? ⟨w.heap.size, 0, none⟩ = some (.int .i64 op) ∧ W.cell? ⟨w.heap.size, 1, none⟩ = some (.int .i64 rd) ∧ W.cell? ⟨w.heap.size, 2, none⟩ = some (.int .i64 s1) ∧ W.cell? ⟨w.heap.size, 3, none⟩ = some (.int .i64 s2) ∧ W.cell? ⟨w.heap.size, 4, none⟩ = some (.int .i64 im) ∧
      W.cell? ⟨w1.heap.size, op.toNat, none⟩ = some (.iface 94 (.agg #[.int .u32 (oc op), .int .u32 (f3 op), .int .u32 (f7 op)]))) (go_simp)
    (first
    | (go_at_call 121; refine (HW.out _).mono ?_; rintro e w3 ⟨rfl, hb3⟩; have q3 := six_later (W := W2.drew) hb3 k2 t2))
  go_wp2_with fail
  refine (HI.out _).mono ?_
  rintro e w4 ⟨rfl, hb4⟩
  have q4 := six_later hb4 q3.1 q3.2
  have z3 : W2.heap.size ≤ w3.heap.size := hb3.size
  have z4 : w.heap.size < w4.heap.size := by have := hb4.size; omega
  have HB : Hid (Below w.heap.size w w4) := (((Below.refl _ _).alloc (Nat.le_refl w.heap.size) _).trans (hb12.mono (by omega))).trans (((below_drew' W2).trans hb3).mono (by omega) |>.trans (hb4.mono (by omega)))
  clear q3 hb3 hb4 hb12 k2 t2 HI HW
  go_wp2
  all_goals go_ret
  all_goals refine ⟨ret_int ?_, ?_⟩
  all_goals first
    | exact HR1.out (HRT.out.1 (by omega))
    | exact HR0.out (fun hv => by have := HRT.out.2 hv; omega)
    | exact HB.out.alloc (by omega) _
theorem tabI (op : Int) (h : op = 3 ∨ op = 10 ∨ (12 ≤ op ∧ op ≤ 17)) : tabA[op.toNat]? = some (.iface 89 (.agg #[.int .u32 (oc op), .int .u32 (f3 op)])) := by
  obtain ⟨n, rfl⟩ : ∃ n : Nat, op = n := ⟨op.toNat, by omega⟩
  have h1 : n = 3 ∨ n = 10 ∨ n = 12 ∨ n = 13 ∨ n = 14 ∨ n = 15 ∨ n = 16 ∨ n = 17 := by omega
  rcases h1 with rfl | rfl | rfl | rfl | rfl | rfl | rfl | rfl
  all_goals rfl
theorem mwI (a b : Int) (W : World) : (method 237 89 (.agg #[.int .u32 a, .int .u32 b]) "loop.example/s01725/impl.word").run Try.prog W = .ok (108, .agg #[.int .u32 a, .int .u32 b]) W := by kernel_rfl
theorem miI (a b : Int) (W : World) : (method 237 89 (.agg #[.int .u32 a, .int .u32 b]) "loop.example/s01725/impl.inst").run Try.prog W = .ok (107, .agg #[.int .u32 a, .int .u32 b]) W := by kernel_rfl
set_option maxRecDepth 100000 in
set_option maxHeartbeats 2000000 in
theorem ieI (op rd s1 s2 im : Int) (w : World) (h : op = 3 ∨ op = 10 ∨ (12 ≤ op ∧ op ≤ 17)) (R : Int) (hR1 : vI rd s1 s2 im = true → R = oc op + rd % 32 * 128 + f3 op * 4096 + s1 % 32 * 32768 + im % 4096 * 1048576) (hR0 : ¬ vI rd s1 s2 im = true → R = 0) :
    Calls Try.prog 13 #[.agg #[.int .i64 op, .int .i64 rd, .int .i64 s1, .int .i64 s2, .int .i64 im]] w fun e w' => e = .returned (.int .u32 R) ∧ Below w.heap.size w w' := by
  have HH : Hid _ := h
  have hr1 : 1 ≤ op := by omega
  have hr2 : op ≤ 34 := by omega
  have hr0 : 0 ≤ op := by omega
  have hr3 : op < 35 := by omega
  obtain ⟨X, hX⟩ : ∃ X, X = oc op + rd % 32 * 128 + f3 op * 4096 + s1 % 32 * 32768 + im % 4096 * 1048576 := ⟨_, rfl⟩
  have hrt := rtI (oc op) (f3 op) rd s1 s2 im X (oc_bd op) (f3_bd op) hX
  obtain ⟨b1, hb1⟩ : ∃ b, b = X / 128 % 32 := ⟨_, rfl⟩
  obtain ⟨b2, hb2⟩ : ∃ b, b = X / 32768 % 32 := ⟨_, rfl⟩
  obtain ⟨b4, hb4⟩ : ∃ b, b = sg (X / 1048576 % 4096) 2048 4096 := ⟨_, rfl⟩
  rw [← hb1, ← hb2, ← hb4] at hrt
  have HRT : Hid _ := hrt.2
  have HI : Hid (∀ W : World, Calls Try.prog 107 #[.agg #[.int .u32 (oc op), .int .u32 (f3 op)], .int .u32 X] W fun e w' => e = .returned (.agg #[.int .i64 0, .int .i64 b1, .int .i64 b2, .int .i64 0, .int .i64 b4]) ∧ Below W.heap.size W w') := by
    intro W
    rw [hb1, hb2, hb4]
    exact instI _ _ X W hrt.1
  have HW : Hid (∀ W : World, Calls Try.prog 108 #[.agg #[.int .u32 (oc op), .int .u32 (f3 op)], .agg #[.int .i64 op, .int .i64 rd, .int .i64 s1, .int .i64 s2, .int .i64 im]] W fun e w' => e = .returned (.int .u32 X) ∧ Below W.heap.size W w') := by
    intro W
    rw [hX]
    exact wordI _ _ _ _ _ _ _ W (oc_bd op) (f3_bd op)
  have HR1 : Hid (vI rd s1 s2 im = true → X = R) := fun hv => by rw [hR1 hv, hX]
  have HR0 : Hid (¬ vI rd s1 s2 im = true → 0 = R) := fun hv => (hR0 hv).symm
  have mw := mwI (oc op) (f3 op)
  have mi := miI (oc op) (f3 op)
  clear h hrt hX hR1 hR0 hb1 hb2 hb4
  go_enter Try.func13, Try.ntmps13
  go_wp2_with fail
  refine (opShapes_any _).mono ?_
  rintro e w1 ⟨rfl, hb1⟩
  simp only [World.size_alloc] at hb1
  have z1 := hb1.size
  simp only [World.size_alloc] at z1
  go_wp2_with (refine store_tab rfl _ _ rfl w1 rfl rfl rfl ?_; intro W2 hT hB2 hs2; have hb12 := hb1.trans (hB2.mono z1); have k2 := box5' hb12; have t2 := (hT op.toNat (by omega)).trans (tabI op HH.out); clear hT hB2 hb1)
  simp only [Act.put]
  go_region_held3 (fun W => W.cell? ⟨w.heap.size, 0, none⟩ = some (.int .i64 op) ∧ W.cell? ⟨w.heap.size, 1, none⟩ = some (.int .i64 rd) ∧ W.cell? ⟨w.heap.size, 2, none⟩ = some (.int .i64 s1) ∧ W.cell? ⟨w.heap.size, 3, none⟩ = some (.int .i64 s2) ∧ W.cell? ⟨w.heap.size, 4, none⟩ = some (.int .i64 im) ∧
      W.cell? ⟨w1.heap.size, op.toNat, none⟩ = some (.iface 89 (.agg #[.int .u32 (oc op), .int .u32 (f3 op)]))) (go_simp)
    (first
    | (go_at_call 108; refine (HW.out _).mono ?_; rintro e w3 ⟨rfl, hb3⟩; have q3 := six_later (W := W2.drew) hb3 k2 t2))
  go_wp2_with fail
  refine (HI.out _).mono ?_
  rintro e w4 ⟨rfl, hb4⟩
  have q4 := six_later hb4 q3.1 q3.2
  have z3 : W2.heap.size ≤ w3.heap.size := hb3.size
  have z4 : w.heap.size < w4.heap.size := by have := hb4.size; omega
  have HB : Hid (Below w.heap.size w w4) := (((Below.refl _ _).alloc (Nat.le_refl w.heap.size) _).trans (hb12.mono (by omega))).trans (((below_drew' W2).trans hb3).mono (by omega) |>.trans (hb4.mono (by omega)))
  clear q3 hb3 hb4 hb12 k2 t2 HI HW
  go_wp2
  all_goals go_ret
  all_goals refine ⟨ret_int ?_, ?_⟩
  all_goals first
    | exact HR1.out (HRT.out.1 (by omega))
    | exact HR0.out (fun hv => by have := HRT.out.2 hv; omega)
    | exact HB.out.alloc (by omega) _
end Go.Proofs.Ytplkgkgekgdnmaa
