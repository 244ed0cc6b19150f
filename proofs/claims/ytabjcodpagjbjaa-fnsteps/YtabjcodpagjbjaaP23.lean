import Derived.Test.YtabjcodpagjbjaaP17
import Derived.Test.YtabjcodpagjbjaaP21
import Derived.Test.YtabjcodpagjbjaaP22
import Derived.Deep.RegionHeld3
import Derived.WalkSmall
namespace Go.Proofs.Ytabjcodpagjbjaa
open Go.RowKit
set_option linter.unusedVariables false
set_option linter.unusedSimpArgs false
theorem mq_0_32 (x : Int) : x % 4294967296 % 32 = x % 32 := by omega
theorem mq_32_128 (x : Int) : x % 4294967296 / 32 % 128 = x / 32 % 128 := by omega
theorem mq_2048_2 (x : Int) : x % 4294967296 / 2048 % 2 = x / 2048 % 2 := by omega
theorem mq_2_16 (x : Int) : x % 4294967296 / 2 % 16 = x / 2 % 16 := by omega
theorem mq_32_64 (x : Int) : x % 4294967296 / 32 % 64 = x / 32 % 64 := by omega
theorem mq_4096_2 (x : Int) : x % 4294967296 / 4096 % 2 = x / 4096 % 2 := by omega
theorem mq_4096_256 (x : Int) : x % 4294967296 / 4096 % 256 = x / 4096 % 256 := by omega
theorem mq_2_1024 (x : Int) : x % 4294967296 / 2 % 1024 = x / 2 % 1024 := by omega
theorem mq_1048576_2 (x : Int) : x % 4294967296 / 1048576 % 2 = x / 1048576 % 2 := by omega
theorem mq_0_4096 (x : Int) : x % 4294967296 % 4096 = x % 4096 := by omega
theorem mq_0_1048576 (x : Int) : x % 4294967296 % 1048576 = x % 1048576 := by omega
theorem codes_any (op : Int) (w : World) (h : 1 ≤ op ∧ op ≤ 34) : Calls Try.prog 69 #[.int .i64 op] w fun e w' => CodesAt w w' op e := by
  obtain ⟨n, rfl⟩ : ∃ n : Nat, op = n := ⟨op.toNat, by omega⟩
  have h0 : n ≠ 0 := by omega
  have hn : n < 35 := by omega
  clear h
  match n, h0, hn with
  | 0, h, _ => exact absurd rfl h
  | 1, _, _ => exact codes1 w
  | 2, _, _ => exact codes2 w
  | 3, _, _ => exact codes3 w
  | 4, _, _ => exact codes4 w
  | 5, _, _ => exact codes5 w
  | 6, _, _ => exact codes6 w
  | 7, _, _ => exact codes7 w
  | 8, _, _ => exact codes8 w
  | 9, _, _ => exact codes9 w
  | 10, _, _ => exact codes10 w
  | 11, _, _ => exact codes11 w
  | 12, _, _ => exact codes12 w
  | 13, _, _ => exact codes13 w
  | 14, _, _ => exact codes14 w
  | 15, _, _ => exact codes15 w
  | 16, _, _ => exact codes16 w
  | 17, _, _ => exact codes17 w
  | 18, _, _ => exact codes18 w
  | 19, _, _ => exact codes19 w
  | 20, _, _ => exact codes20 w
  | 21, _, _ => exact codes21 w
  | 22, _, _ => exact codes22 w
  | 23, _, _ => exact codes23 w
  | 24, _, _ => exact codes24 w
  | 25, _, _ => exact codes25 w
  | 26, _, _ => exact codes26 w
  | 27, _, _ => exact codes27 w
  | 28, _, _ => exact codes28 w
  | 29, _, _ => exact codes29 w
  | 30, _, _ => exact codes30 w
  | 31, _, _ => exact codes31 w
  | 32, _, _ => exact codes32 w
  | 33, _, _ => exact codes33 w
  | 34, _, _ => exact codes34 w
  | (n + 35), _, h => exact absurd h (by omega)
theorem encNo (op rd s1 s2 im : Int) (w : World) (hv : ∀ W : World, Calls Try.prog 68 #[.agg #[.int .i64 op, .int .i64 rd, .int .i64 s1, .int .i64 s2, .int .i64 im]] W fun e w' => e = .returned (.bool false) ∧ Below W.heap.size W w') :
    Calls Try.prog 55 #[.agg #[.int .i64 op, .int .i64 rd, .int .i64 s1, .int .i64 s2, .int .i64 im]] w fun e w' => e = .returned (.int .u32 0) ∧ Below w.heap.size w w' := by
  have HV : Hid _ := hv
  clear hv
  go_enter Try.func55, Try.ntmps55
  go_wp2_with fail
  refine (HV.out _).mono ?_
  rintro e w1 ⟨rfl, hb⟩
  go_wp2
  go_ret
  exact ⟨rfl, ((Below.refl _ _).alloc (Nat.le_refl _) _).trans (hb.mono (by simp))⟩
theorem box5 {w w' : World} {t : TypeId} {a b c d e : Value} (h : Below (w.heap.size + 1) (w.alloc (.cells #[a, b, c, d, e] t)) w') :
    w'.cell? ⟨w.heap.size, 0, none⟩ = some a ∧ w'.cell? ⟨w.heap.size, 1, none⟩ = some b ∧ w'.cell? ⟨w.heap.size, 2, none⟩ = some c ∧ w'.cell? ⟨w.heap.size, 3, none⟩ = some d ∧ w'.cell? ⟨w.heap.size, 4, none⟩ = some e := by
  refine ⟨?_, ?_, ?_, ?_, ?_⟩ <;> (rw [h.cell (by simp)]; simp)
set_option maxRecDepth 100000 in
set_option maxHeartbeats 2000000 in
theorem encU (op rd s1 s2 im : Int) (w : World) (h : op = 1) (hv : vU rd s1 s2 im = true) :
    Calls Try.prog 55 #[.agg #[.int .i64 op, .int .i64 rd, .int .i64 s1, .int .i64 s2, .int .i64 im]] w fun e w' => e = .returned (.int .u32 (oc op + rd % 32 * 128 + im % 1048576 * 4096)) ∧ Below w.heap.size w w' := by
  have HH : Hid _ := h
  have HV : Hid (∀ W : World, Calls Try.prog 68 #[.agg #[.int .i64 op, .int .i64 rd, .int .i64 s1, .int .i64 s2, .int .i64 im]] W fun e w' => e = .returned (.bool true) ∧ Below W.heap.size W w') := fun W => (spU op rd s1 s2 im W h).mono fun e w' x => ⟨by rw [x.1, hv], x.2⟩
  have hr : 1 ≤ op ∧ op ≤ 34 := by omega
  have o1 := oc_bd op
  have o2 := f3_bd op
  have o3 := f7_bd op
  have hd : 0 ≤ rd ∧ rd ≤ 31 ∧ s1 = 0 ∧ s2 = 0 ∧ 0 ≤ im ∧ im ≤ 1048575 := of_decide_eq_true hv
  clear h hv
  obtain ⟨d0, d1, rfl, rfl, d4, d5⟩ := hd
  go_enter Try.func55, Try.ntmps55
  go_wp2_with fail
  refine (HV.out _).mono ?_
  rintro e w1 ⟨rfl, hb1⟩
  simp only [World.size_alloc] at hb1
  have k1 := box5 hb1
  have z1 := hb1.size
  simp only [World.size_alloc] at z1
  go_wp2_with fail
  refine (codes_any _ _ hr).mono ?_
  rintro e w2 ⟨g, rfl, hg, c0, c1, c2, hb2⟩
  have hb12 := hb1.trans (hb2.mono z1)
  have k2 := box5 hb12
  clear hb1 k1 hb2
  have HB : Hid (Below w.heap.size w w2) := ((Below.refl _ _).alloc (Nat.le_refl _) _).trans (hb12.mono (by omega))
  clear hb12
  go_wp2_with (first | (go_at_call 53; refine (shapeU _ _ HH.out).mono ?_; rintro e w' ⟨rfl, rfl⟩) | (go_at_call 70; refine (bits_any _ _ _ _ _ (by decide)).mono ?_; rintro e w' ⟨rfl, rfl⟩))
  try go_quiet (fail)
  all_goals go_wp2_with (first | (go_at_call 70; refine (bits_any _ _ _ _ _ (by decide)).mono ?_; rintro e w' ⟨rfl, rfl⟩))
  try go_quiet (fail)
  all_goals go_wp2_with (first | (go_at_call 70; refine (bits_any _ _ _ _ _ (by decide)).mono ?_; rintro e w' ⟨rfl, rfl⟩))
  all_goals go_ret
  all_goals refine ⟨ret_int ?_, ?_⟩
  all_goals first
    | exact HB.out
    | exact below_drewN HB.out _
    | exact below_drewN (below_drewN HB.out _) _
    | omega
    | (have e3 : f3 op = 0 := (by rw [HH.out]; rfl); omega)
    | (simp only [Int.reduceSub, Int.reduceAdd, IntKind.wrap_u32', mvi_0_5_7, mvi_0_20_12, mq_0_32, mq_32_128, mq_2048_2, mq_2_16, mq_32_64, mq_4096_2, mq_4096_256, mq_2_1024, mq_1048576_2, mq_0_4096, mq_0_1048576]; omega)
set_option maxRecDepth 100000 in
set_option maxHeartbeats 2000000 in
theorem encJ (op rd s1 s2 im : Int) (w : World) (h : op = 2) (hv : vJ rd s1 s2 im = true) :
    Calls Try.prog 55 #[.agg #[.int .i64 op, .int .i64 rd, .int .i64 s1, .int .i64 s2, .int .i64 im]] w fun e w' => e = .returned (.int .u32 (oc op + rd % 32 * 128 + im / 4096 % 256 * 4096 + im / 2048 % 2 * 1048576 + im / 2 % 1024 * 2097152 + im / 1048576 % 2 * 2147483648)) ∧ Below w.heap.size w w' := by
  have HH : Hid _ := h
  have HV : Hid (∀ W : World, Calls Try.prog 68 #[.agg #[.int .i64 op, .int .i64 rd, .int .i64 s1, .int .i64 s2, .int .i64 im]] W fun e w' => e = .returned (.bool true) ∧ Below W.heap.size W w') := fun W => (spJ op rd s1 s2 im W h).mono fun e w' x => ⟨by rw [x.1, hv], x.2⟩
  have hr : 1 ≤ op ∧ op ≤ 34 := by omega
  have o1 := oc_bd op
  have o2 := f3_bd op
  have o3 := f7_bd op
  have hd : 0 ≤ rd ∧ rd ≤ 31 ∧ s1 = 0 ∧ s2 = 0 ∧ -1048576 ≤ im ∧ im ≤ 1048574 ∧ im % 2 = 0 := of_decide_eq_true hv
  clear h hv
  obtain ⟨d0, d1, rfl, rfl, d4, d5, hE⟩ := hd
  clear hE
  go_enter Try.func55, Try.ntmps55
  go_wp2_with fail
  refine (HV.out _).mono ?_
  rintro e w1 ⟨rfl, hb1⟩
  simp only [World.size_alloc] at hb1
  have k1 := box5 hb1
  have z1 := hb1.size
  simp only [World.size_alloc] at z1
  go_wp2_with fail
  refine (codes_any _ _ hr).mono ?_
  rintro e w2 ⟨g, rfl, hg, c0, c1, c2, hb2⟩
  have hb12 := hb1.trans (hb2.mono z1)
  have k2 := box5 hb12
  clear hb1 k1 hb2
  have HB : Hid (Below w.heap.size w w2) := ((Below.refl _ _).alloc (Nat.le_refl _) _).trans (hb12.mono (by omega))
  clear hb12
  go_wp2_with (first | (go_at_call 53; refine (shapeJ _ _ HH.out).mono ?_; rintro e w' ⟨rfl, rfl⟩) | (go_at_call 70; refine (bits_any _ _ _ _ _ (by decide)).mono ?_; rintro e w' ⟨rfl, rfl⟩))
  go_region_held3 (fun W => W.cell? ⟨w.heap.size, 4, none⟩ = some (.int .i64 im)) (go_simp)
    (first
    | (go_at_call 70; refine (bits_any _ _ _ _ _ (by decide)).mono ?_; rintro e w' ⟨rfl, rfl⟩))
  all_goals go_wp2_with (first | (go_at_call 70; refine (bits_any _ _ _ _ _ (by decide)).mono ?_; rintro e w' ⟨rfl, rfl⟩))
  try go_quiet (fail)
  all_goals go_wp2_with (first | (go_at_call 70; refine (bits_any _ _ _ _ _ (by decide)).mono ?_; rintro e w' ⟨rfl, rfl⟩))
  all_goals go_ret
  all_goals refine ⟨ret_int ?_, ?_⟩
  all_goals first
    | exact HB.out
    | exact below_drewN HB.out _
    | exact below_drewN (below_drewN HB.out _) _
    | omega
    | (have e3 : f3 op = 0 := (by rw [HH.out]; rfl); omega)
    | (simp only [Int.reduceSub, Int.reduceAdd, IntKind.wrap_u32', mvi_0_5_7, mvi_12_8_12, mvi_11_1_20, mvi_1_10_21, mvi_20_1_31, mq_0_32, mq_32_128, mq_2048_2, mq_2_16, mq_32_64, mq_4096_2, mq_4096_256, mq_2_1024, mq_1048576_2, mq_0_4096, mq_0_1048576]; rw [show rd % 32 = rd by omega]; generalize hA : im / 4096 % 256 = A; have xA : 0 ≤ A ∧ A ≤ 255 := (by omega); generalize hB : im / 2048 % 2 = B; have xB : 0 ≤ B ∧ B ≤ 1 := (by omega); generalize hC : im / 2 % 1024 = C; have xC : 0 ≤ C ∧ C ≤ 1023 := (by omega); generalize hD : im / 1048576 % 2 = D; have xD : 0 ≤ D ∧ D ≤ 1 := (by omega); clear hA hB hC hD; omega)
set_option maxRecDepth 100000 in
set_option maxHeartbeats 2000000 in
theorem encB (op rd s1 s2 im : Int) (w : World) (h : 4 ≤ op ∧ op ≤ 9) (hv : vB rd s1 s2 im = true) :
    Calls Try.prog 55 #[.agg #[.int .i64 op, .int .i64 rd, .int .i64 s1, .int .i64 s2, .int .i64 im]] w fun e w' => e = .returned (.int .u32 (oc op + im / 2048 % 2 * 128 + im / 2 % 16 * 256 + f3 op * 4096 + s1 % 32 * 32768 + s2 % 32 * 1048576 + im / 32 % 64 * 33554432 + im / 4096 % 2 * 2147483648)) ∧ Below w.heap.size w w' := by
  have HH : Hid _ := h
  have HV : Hid (∀ W : World, Calls Try.prog 68 #[.agg #[.int .i64 op, .int .i64 rd, .int .i64 s1, .int .i64 s2, .int .i64 im]] W fun e w' => e = .returned (.bool true) ∧ Below W.heap.size W w') := fun W => (spB op rd s1 s2 im W h).mono fun e w' x => ⟨by rw [x.1, hv], x.2⟩
  have hr : 1 ≤ op ∧ op ≤ 34 := by omega
  have o1 := oc_bd op
  have o2 := f3_bd op
  have o3 := f7_bd op
  have hd : rd = 0 ∧ 0 ≤ s1 ∧ s1 ≤ 31 ∧ 0 ≤ s2 ∧ s2 ≤ 31 ∧ -4096 ≤ im ∧ im ≤ 4094 ∧ im % 2 = 0 := of_decide_eq_true hv
  clear h hv
  obtain ⟨rfl, d1, d2, d3, d4, d5, d6, hE⟩ := hd
  clear hE
  go_enter Try.func55, Try.ntmps55
  go_wp2_with fail
  refine (HV.out _).mono ?_
  rintro e w1 ⟨rfl, hb1⟩
  simp only [World.size_alloc] at hb1
  have k1 := box5 hb1
  have z1 := hb1.size
  simp only [World.size_alloc] at z1
  go_wp2_with fail
  refine (codes_any _ _ hr).mono ?_
  rintro e w2 ⟨g, rfl, hg, c0, c1, c2, hb2⟩
  have hb12 := hb1.trans (hb2.mono z1)
  have k2 := box5 hb12
  clear hb1 k1 hb2
  have HB : Hid (Below w.heap.size w w2) := ((Below.refl _ _).alloc (Nat.le_refl _) _).trans (hb12.mono (by omega))
  clear hb12
  go_wp2_with (first | (go_at_call 53; refine (shapeB _ _ HH.out).mono ?_; rintro e w' ⟨rfl, rfl⟩) | (go_at_call 70; refine (bits_any _ _ _ _ _ (by decide)).mono ?_; rintro e w' ⟨rfl, rfl⟩))
  try go_quiet (fail)
  all_goals go_wp2_with (first | (go_at_call 70; refine (bits_any _ _ _ _ _ (by decide)).mono ?_; rintro e w' ⟨rfl, rfl⟩))
  go_region_held3 (fun W => W.cell? ⟨w.heap.size, 3, none⟩ = some (.int .i64 s2) ∧ W.cell? ⟨w.heap.size, 4, none⟩ = some (.int .i64 im)) (go_simp)
    (first
    | (go_at_call 70; refine (bits_any _ _ _ _ _ (by decide)).mono ?_; rintro e w' ⟨rfl, rfl⟩))
  all_goals go_wp2_with (first | (go_at_call 70; refine (bits_any _ _ _ _ _ (by decide)).mono ?_; rintro e w' ⟨rfl, rfl⟩))
  all_goals go_ret
  all_goals refine ⟨ret_int ?_, ?_⟩
  all_goals first
    | exact HB.out
    | exact below_drewN HB.out _
    | exact below_drewN (below_drewN HB.out _) _
    | omega
    | (have e3 : f3 op = 0 := (by rw [HH.out]; rfl); omega)
    | (simp only [Int.reduceSub, Int.reduceAdd, IntKind.wrap_u32', mvi_0_5_15, mvi_0_5_20, mvi_11_1_7, mvi_1_4_8, mvi_5_6_25, mvi_12_1_31, mq_0_32, mq_32_128, mq_2048_2, mq_2_16, mq_32_64, mq_4096_2, mq_4096_256, mq_2_1024, mq_1048576_2, mq_0_4096, mq_0_1048576]; have y2 : s2 % 4294967296 = s2 := (by omega); rw [y2, show s2 % 32 = s2 by omega, show s1 % 32 = s1 by omega]; clear y2; generalize hA : im / 2048 % 2 = A; have xA : 0 ≤ A ∧ A ≤ 1 := (by omega); generalize hB : im / 2 % 16 = B; have xB : 0 ≤ B ∧ B ≤ 15 := (by omega); generalize hC : im / 32 % 64 = C; have xC : 0 ≤ C ∧ C ≤ 63 := (by omega); generalize hD : im / 4096 % 2 = D; have xD : 0 ≤ D ∧ D ≤ 1 := (by omega); clear hA hB hC hD; omega)
set_option maxRecDepth 100000 in
set_option maxHeartbeats 2000000 in
theorem encS (op rd s1 s2 im : Int) (w : World) (h : op = 11) (hv : vS rd s1 s2 im = true) :
    Calls Try.prog 55 #[.agg #[.int .i64 op, .int .i64 rd, .int .i64 s1, .int .i64 s2, .int .i64 im]] w fun e w' => e = .returned (.int .u32 (oc op + im % 32 * 128 + f3 op * 4096 + s1 % 32 * 32768 + s2 % 32 * 1048576 + im / 32 % 128 * 33554432)) ∧ Below w.heap.size w w' := by
  have HH : Hid _ := h
  have HV : Hid (∀ W : World, Calls Try.prog 68 #[.agg #[.int .i64 op, .int .i64 rd, .int .i64 s1, .int .i64 s2, .int .i64 im]] W fun e w' => e = .returned (.bool true) ∧ Below W.heap.size W w') := fun W => (spS op rd s1 s2 im W h).mono fun e w' x => ⟨by rw [x.1, hv], x.2⟩
  have hr : 1 ≤ op ∧ op ≤ 34 := by omega
  have o1 := oc_bd op
  have o2 := f3_bd op
  have o3 := f7_bd op
  have hd : rd = 0 ∧ 0 ≤ s1 ∧ s1 ≤ 31 ∧ 0 ≤ s2 ∧ s2 ≤ 31 ∧ -2048 ≤ im ∧ im ≤ 2047 := of_decide_eq_true hv
  clear h hv
  obtain ⟨rfl, d1, d2, d3, d4, d5, d6⟩ := hd
  go_enter Try.func55, Try.ntmps55
  go_wp2_with fail
  refine (HV.out _).mono ?_
  rintro e w1 ⟨rfl, hb1⟩
  simp only [World.size_alloc] at hb1
  have k1 := box5 hb1
  have z1 := hb1.size
  simp only [World.size_alloc] at z1
  go_wp2_with fail
  refine (codes_any _ _ hr).mono ?_
  rintro e w2 ⟨g, rfl, hg, c0, c1, c2, hb2⟩
  have hb12 := hb1.trans (hb2.mono z1)
  have k2 := box5 hb12
  clear hb1 k1 hb2
  have HB : Hid (Below w.heap.size w w2) := ((Below.refl _ _).alloc (Nat.le_refl _) _).trans (hb12.mono (by omega))
  clear hb12
  go_wp2_with (first | (go_at_call 53; refine (shapeS _ _ HH.out).mono ?_; rintro e w' ⟨rfl, rfl⟩) | (go_at_call 70; refine (bits_any _ _ _ _ _ (by decide)).mono ?_; rintro e w' ⟨rfl, rfl⟩))
  try go_quiet (fail)
  all_goals go_wp2_with (first | (go_at_call 70; refine (bits_any _ _ _ _ _ (by decide)).mono ?_; rintro e w' ⟨rfl, rfl⟩))
  go_region_held3 (fun W => W.cell? ⟨w.heap.size, 3, none⟩ = some (.int .i64 s2) ∧ W.cell? ⟨w.heap.size, 4, none⟩ = some (.int .i64 im)) (go_simp)
    (first
    | (go_at_call 70; refine (bits_any _ _ _ _ _ (by decide)).mono ?_; rintro e w' ⟨rfl, rfl⟩))
  all_goals go_wp2_with (first | (go_at_call 70; refine (bits_any _ _ _ _ _ (by decide)).mono ?_; rintro e w' ⟨rfl, rfl⟩))
  all_goals go_ret
  all_goals refine ⟨ret_int ?_, ?_⟩
  all_goals first
    | exact HB.out
    | exact below_drewN HB.out _
    | exact below_drewN (below_drewN HB.out _) _
    | omega
    | (have e3 : f3 op = 0 := (by rw [HH.out]; rfl); omega)
    | (simp only [Int.reduceSub, Int.reduceAdd, IntKind.wrap_u32', mvi_0_5_15, mvi_0_5_20, mvi_0_5_7, mvi_5_7_25, mq_0_32, mq_32_128, mq_2048_2, mq_2_16, mq_32_64, mq_4096_2, mq_4096_256, mq_2_1024, mq_1048576_2, mq_0_4096, mq_0_1048576]; have y2 : s2 % 4294967296 = s2 := (by omega); rw [y2, show s2 % 32 = s2 by omega, show s1 % 32 = s1 by omega]; clear y2; generalize hA : im % 32 = A; have xA : 0 ≤ A ∧ A ≤ 31 := (by omega); generalize hB : im / 32 % 128 = B; have xB : 0 ≤ B ∧ B ≤ 127 := (by omega); clear hA hB; omega)
set_option maxRecDepth 100000 in
set_option maxHeartbeats 2000000 in
theorem encH (op rd s1 s2 im : Int) (w : World) (h : 18 ≤ op ∧ op ≤ 20) (hv : vH rd s1 s2 im = true) :
    Calls Try.prog 55 #[.agg #[.int .i64 op, .int .i64 rd, .int .i64 s1, .int .i64 s2, .int .i64 im]] w fun e w' => e = .returned (.int .u32 (oc op + rd % 32 * 128 + f3 op * 4096 + s1 % 32 * 32768 + im % 32 * 1048576 + f7 op * 33554432)) ∧ Below w.heap.size w w' := by
  have HH : Hid _ := h
  have HV : Hid (∀ W : World, Calls Try.prog 68 #[.agg #[.int .i64 op, .int .i64 rd, .int .i64 s1, .int .i64 s2, .int .i64 im]] W fun e w' => e = .returned (.bool true) ∧ Below W.heap.size W w') := fun W => (spH op rd s1 s2 im W h).mono fun e w' x => ⟨by rw [x.1, hv], x.2⟩
  have hr : 1 ≤ op ∧ op ≤ 34 := by omega
  have o1 := oc_bd op
  have o2 := f3_bd op
  have o3 := f7_bd op
  have hd : 0 ≤ rd ∧ rd ≤ 31 ∧ 0 ≤ s1 ∧ s1 ≤ 31 ∧ s2 = 0 ∧ 0 ≤ im ∧ im ≤ 31 := of_decide_eq_true hv
  clear h hv
  obtain ⟨d0, d1, d2, d3, rfl, d5, d6⟩ := hd
  go_enter Try.func55, Try.ntmps55
  go_wp2_with fail
  refine (HV.out _).mono ?_
  rintro e w1 ⟨rfl, hb1⟩
  simp only [World.size_alloc] at hb1
  have k1 := box5 hb1
  have z1 := hb1.size
  simp only [World.size_alloc] at z1
  go_wp2_with fail
  refine (codes_any _ _ hr).mono ?_
  rintro e w2 ⟨g, rfl, hg, c0, c1, c2, hb2⟩
  have hb12 := hb1.trans (hb2.mono z1)
  have k2 := box5 hb12
  clear hb1 k1 hb2
  have HB : Hid (Below w.heap.size w w2) := ((Below.refl _ _).alloc (Nat.le_refl _) _).trans (hb12.mono (by omega))
  clear hb12
  go_wp2_with (first | (go_at_call 53; refine (shapeH _ _ HH.out).mono ?_; rintro e w' ⟨rfl, rfl⟩) | (go_at_call 70; refine (bits_any _ _ _ _ _ (by decide)).mono ?_; rintro e w' ⟨rfl, rfl⟩))
  try go_quiet (fail)
  all_goals go_wp2_with (first | (go_at_call 70; refine (bits_any _ _ _ _ _ (by decide)).mono ?_; rintro e w' ⟨rfl, rfl⟩))
  try go_quiet (fail)
  all_goals go_wp2_with (first | (go_at_call 70; refine (bits_any _ _ _ _ _ (by decide)).mono ?_; rintro e w' ⟨rfl, rfl⟩))
  all_goals go_ret
  all_goals refine ⟨ret_int ?_, ?_⟩
  all_goals first
    | exact HB.out
    | exact below_drewN HB.out _
    | exact below_drewN (below_drewN HB.out _) _
    | omega
    | (have e3 : f3 op = 0 := (by rw [HH.out]; rfl); omega)
    | (simp only [Int.reduceSub, Int.reduceAdd, IntKind.wrap_u32', mvi_0_5_7, mvi_0_5_15, mvi_0_5_20, mq_0_32, mq_32_128, mq_2048_2, mq_2_16, mq_32_64, mq_4096_2, mq_4096_256, mq_2_1024, mq_1048576_2, mq_0_4096, mq_0_1048576]; omega)
set_option maxRecDepth 100000 in
set_option maxHeartbeats 2000000 in
theorem encR (op rd s1 s2 im : Int) (w : World) (h : 21 ≤ op ∧ op ≤ 33) (hv : vR rd s1 s2 im = true) :
    Calls Try.prog 55 #[.agg #[.int .i64 op, .int .i64 rd, .int .i64 s1, .int .i64 s2, .int .i64 im]] w fun e w' => e = .returned (.int .u32 (oc op + rd % 32 * 128 + f3 op * 4096 + s1 % 32 * 32768 + s2 % 32 * 1048576 + f7 op * 33554432)) ∧ Below w.heap.size w w' := by
  have HH : Hid _ := h
  have HV : Hid (∀ W : World, Calls Try.prog 68 #[.agg #[.int .i64 op, .int .i64 rd, .int .i64 s1, .int .i64 s2, .int .i64 im]] W fun e w' => e = .returned (.bool true) ∧ Below W.heap.size W w') := fun W => (spR op rd s1 s2 im W h).mono fun e w' x => ⟨by rw [x.1, hv], x.2⟩
  have hr : 1 ≤ op ∧ op ≤ 34 := by omega
  have o1 := oc_bd op
  have o2 := f3_bd op
  have o3 := f7_bd op
  have hd : 0 ≤ rd ∧ rd ≤ 31 ∧ 0 ≤ s1 ∧ s1 ≤ 31 ∧ 0 ≤ s2 ∧ s2 ≤ 31 ∧ im = 0 := of_decide_eq_true hv
  clear h hv
  obtain ⟨d0, d1, d2, d3, d4, d5, rfl⟩ := hd
  go_enter Try.func55, Try.ntmps55
  go_wp2_with fail
  refine (HV.out _).mono ?_
  rintro e w1 ⟨rfl, hb1⟩
  simp only [World.size_alloc] at hb1
  have k1 := box5 hb1
  have z1 := hb1.size
  simp only [World.size_alloc] at z1
  go_wp2_with fail
  refine (codes_any _ _ hr).mono ?_
  rintro e w2 ⟨g, rfl, hg, c0, c1, c2, hb2⟩
  have hb12 := hb1.trans (hb2.mono z1)
  have k2 := box5 hb12
  clear hb1 k1 hb2
  have HB : Hid (Below w.heap.size w w2) := ((Below.refl _ _).alloc (Nat.le_refl _) _).trans (hb12.mono (by omega))
  clear hb12
  go_wp2_with (first | (go_at_call 53; refine (shapeR _ _ HH.out).mono ?_; rintro e w' ⟨rfl, rfl⟩) | (go_at_call 70; refine (bits_any _ _ _ _ _ (by decide)).mono ?_; rintro e w' ⟨rfl, rfl⟩))
  try go_quiet (fail)
  all_goals go_wp2_with (first | (go_at_call 70; refine (bits_any _ _ _ _ _ (by decide)).mono ?_; rintro e w' ⟨rfl, rfl⟩))
  try go_quiet (fail)
  all_goals go_wp2_with (first | (go_at_call 70; refine (bits_any _ _ _ _ _ (by decide)).mono ?_; rintro e w' ⟨rfl, rfl⟩))
  all_goals go_ret
  all_goals refine ⟨ret_int ?_, ?_⟩
  all_goals first
    | exact HB.out
    | exact below_drewN HB.out _
    | exact below_drewN (below_drewN HB.out _) _
    | omega
    | (have e3 : f3 op = 0 := (by rw [HH.out]; rfl); omega)
    | (simp only [Int.reduceSub, Int.reduceAdd, IntKind.wrap_u32', mvi_0_5_7, mvi_0_5_15, mvi_0_5_20, mq_0_32, mq_32_128, mq_2048_2, mq_2_16, mq_32_64, mq_4096_2, mq_4096_256, mq_2_1024, mq_1048576_2, mq_0_4096, mq_0_1048576]; omega)
set_option maxRecDepth 100000 in
set_option maxHeartbeats 2000000 in
theorem encE (op rd s1 s2 im : Int) (w : World) (h : op = 34) (hv : vE rd s1 s2 im = true) :
    Calls Try.prog 55 #[.agg #[.int .i64 op, .int .i64 rd, .int .i64 s1, .int .i64 s2, .int .i64 im]] w fun e w' => e = .returned (.int .u32 (oc op)) ∧ Below w.heap.size w w' := by
  have HH : Hid _ := h
  have HV : Hid (∀ W : World, Calls Try.prog 68 #[.agg #[.int .i64 op, .int .i64 rd, .int .i64 s1, .int .i64 s2, .int .i64 im]] W fun e w' => e = .returned (.bool true) ∧ Below W.heap.size W w') := fun W => (spE op rd s1 s2 im W h).mono fun e w' x => ⟨by rw [x.1, hv], x.2⟩
  have hr : 1 ≤ op ∧ op ≤ 34 := by omega
  have o1 := oc_bd op
  have o2 := f3_bd op
  have o3 := f7_bd op
  have hd : rd = 0 ∧ s1 = 0 ∧ s2 = 0 ∧ im = 0 := of_decide_eq_true hv
  clear h hv
  obtain ⟨rfl, rfl, rfl, rfl⟩ := hd
  go_enter Try.func55, Try.ntmps55
  go_wp2_with fail
  refine (HV.out _).mono ?_
  rintro e w1 ⟨rfl, hb1⟩
  simp only [World.size_alloc] at hb1
  have k1 := box5 hb1
  have z1 := hb1.size
  simp only [World.size_alloc] at z1
  go_wp2_with fail
  refine (codes_any _ _ hr).mono ?_
  rintro e w2 ⟨g, rfl, hg, c0, c1, c2, hb2⟩
  have hb12 := hb1.trans (hb2.mono z1)
  have k2 := box5 hb12
  clear hb1 k1 hb2
  have HB : Hid (Below w.heap.size w w2) := ((Below.refl _ _).alloc (Nat.le_refl _) _).trans (hb12.mono (by omega))
  clear hb12
  go_wp2_with (first | (go_at_call 53; refine (shapeE _ _ HH.out).mono ?_; rintro e w' ⟨rfl, rfl⟩) | (go_at_call 70; refine (bits_any _ _ _ _ _ (by decide)).mono ?_; rintro e w' ⟨rfl, rfl⟩))
  try go_quiet (fail)
  all_goals go_wp2_with (first | (go_at_call 70; refine (bits_any _ _ _ _ _ (by decide)).mono ?_; rintro e w' ⟨rfl, rfl⟩))
  try go_quiet (fail)
  all_goals go_wp2_with (first | (go_at_call 70; refine (bits_any _ _ _ _ _ (by decide)).mono ?_; rintro e w' ⟨rfl, rfl⟩))
  all_goals go_ret
  all_goals refine ⟨ret_int ?_, ?_⟩
  all_goals first
    | exact HB.out
    | exact below_drewN HB.out _
    | exact below_drewN (below_drewN HB.out _) _
    | omega
    | (have e3 : f3 op = 0 := (by rw [HH.out]; rfl); omega)
    | (simp only [Int.reduceSub, Int.reduceAdd, IntKind.wrap_u32', mvi_0_5_7, mq_0_32, mq_32_128, mq_2048_2, mq_2_16, mq_32_64, mq_4096_2, mq_4096_256, mq_2_1024, mq_1048576_2, mq_0_4096, mq_0_1048576]; omega)
set_option maxRecDepth 100000 in
set_option maxHeartbeats 2000000 in
theorem encI (op rd s1 s2 im : Int) (w : World) (h : op = 3 ∨ op = 10 ∨ (12 ≤ op ∧ op ≤ 17)) (hv : vI rd s1 s2 im = true) :
    Calls Try.prog 55 #[.agg #[.int .i64 op, .int .i64 rd, .int .i64 s1, .int .i64 s2, .int .i64 im]] w fun e w' => e = .returned (.int .u32 (oc op + rd % 32 * 128 + f3 op * 4096 + s1 % 32 * 32768 + im % 4096 * 1048576)) ∧ Below w.heap.size w w' := by
  have HH : Hid _ := h
  have HV : Hid (∀ W : World, Calls Try.prog 68 #[.agg #[.int .i64 op, .int .i64 rd, .int .i64 s1, .int .i64 s2, .int .i64 im]] W fun e w' => e = .returned (.bool true) ∧ Below W.heap.size W w') := fun W => (spI op rd s1 s2 im W h).mono fun e w' x => ⟨by rw [x.1, hv], x.2⟩
  have hr : 1 ≤ op ∧ op ≤ 34 := by omega
  have o1 := oc_bd op
  have o2 := f3_bd op
  have o3 := f7_bd op
  have hd : 0 ≤ rd ∧ rd ≤ 31 ∧ 0 ≤ s1 ∧ s1 ≤ 31 ∧ s2 = 0 ∧ -2048 ≤ im ∧ im ≤ 2047 := of_decide_eq_true hv
  clear h hv
  obtain ⟨d0, d1, d2, d3, rfl, d5, d6⟩ := hd
  go_enter Try.func55, Try.ntmps55
  go_wp2_with fail
  refine (HV.out _).mono ?_
  rintro e w1 ⟨rfl, hb1⟩
  simp only [World.size_alloc] at hb1
  have k1 := box5 hb1
  have z1 := hb1.size
  simp only [World.size_alloc] at z1
  go_wp2_with fail
  refine (codes_any _ _ hr).mono ?_
  rintro e w2 ⟨g, rfl, hg, c0, c1, c2, hb2⟩
  have hb12 := hb1.trans (hb2.mono z1)
  have k2 := box5 hb12
  clear hb1 k1 hb2
  have HB : Hid (Below w.heap.size w w2) := ((Below.refl _ _).alloc (Nat.le_refl _) _).trans (hb12.mono (by omega))
  clear hb12
  go_wp2_with (first | (go_at_call 53; refine (shapeI _ _ HH.out).mono ?_; rintro e w' ⟨rfl, rfl⟩) | (go_at_call 70; refine (bits_any _ _ _ _ _ (by decide)).mono ?_; rintro e w' ⟨rfl, rfl⟩))
  try go_quiet (fail)
  all_goals go_wp2_with (first | (go_at_call 70; refine (bits_any _ _ _ _ _ (by decide)).mono ?_; rintro e w' ⟨rfl, rfl⟩))
  try go_quiet (fail)
  all_goals go_wp2_with (first | (go_at_call 70; refine (bits_any _ _ _ _ _ (by decide)).mono ?_; rintro e w' ⟨rfl, rfl⟩))
  all_goals go_ret
  all_goals refine ⟨ret_int ?_, ?_⟩
  all_goals first
    | exact HB.out
    | exact below_drewN HB.out _
    | exact below_drewN (below_drewN HB.out _) _
    | omega
    | (have e3 : f3 op = 0 := (by rw [HH.out]; rfl); omega)
    | (simp only [Int.reduceSub, Int.reduceAdd, IntKind.wrap_u32', mvi_0_5_7, mvi_0_5_15, mvi_0_12_20, mq_0_32, mq_32_128, mq_2048_2, mq_2_16, mq_32_64, mq_4096_2, mq_4096_256, mq_2_1024, mq_1048576_2, mq_0_4096, mq_0_1048576]; omega)
end Go.Proofs.Ytabjcodpagjbjaa
