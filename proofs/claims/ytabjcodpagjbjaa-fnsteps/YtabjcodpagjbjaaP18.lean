import Derived.Test.YtabjcodpagjbjaaP06
import Derived.Test.YtabjcodpagjbjaaP17
import Derived.Test.YtabjcodpagjbjaaP15
import Derived.Test.YtabjcodpagjbjaaP16
import Derived.Deep.RegionHeld3
import Derived.WalkLawsBesides
namespace Go.Proofs.Ytabjcodpagjbjaa
open Go.RowKit
set_option linter.unusedVariables false
theorem sg_cases (x h m : Int) : (x ≥ h ∧ sg x h m = x - m) ∨ (x < h ∧ sg x h m = x) := by
  unfold sg
  by_cases c : x ≥ h
  · exact .inl ⟨c, if_pos c⟩
  · exact .inr ⟨by omega, if_neg c⟩
theorem pick (lo fld hi P C : Int) (hP : 0 < P) (h0 : 0 ≤ lo) (h1 : lo < P) (h2 : 0 ≤ fld) (h3 : fld < C) : (lo + fld * P + hi * (P * C)) / P % C = fld := by
  have e : lo + fld * P + hi * (P * C) = lo + (fld + hi * C) * P := by
    rw [Int.add_mul, Int.mul_assoc hi C P, Int.mul_comm C P, Int.add_assoc]
  rw [e, Int.add_mul_ediv_right _ _ (by omega), Int.ediv_eq_zero_of_lt h0 h1, Int.zero_add, Int.add_mul_emod_self_right, Int.emod_eq_of_lt h2 h3]
theorem dec5 (x : Int) : ∃ r q, x % 32 = r ∧ x = r + 32 * q ∧ 0 ≤ r ∧ r ≤ 31 := ⟨x % 32, x / 32, rfl, by omega, by omega, by omega⟩
theorem decI (x : Int) : ∃ r q, x % 4096 = r ∧ x = r + 4096 * q ∧ 0 ≤ r ∧ r ≤ 4095 := ⟨x % 4096, x / 4096, rfl, by omega, by omega, by omega⟩
theorem decU (x : Int) : ∃ r q, x % 1048576 = r ∧ x = r + 1048576 * q ∧ 0 ≤ r ∧ r ≤ 1048575 := ⟨x % 1048576, x / 1048576, rfl, by omega, by omega, by omega⟩
theorem decS (x : Int) : ∃ i j q, x % 32 = i ∧ x / 32 % 128 = j ∧ x = i + 32 * j + 4096 * q ∧ (0 ≤ i ∧ i ≤ 31) ∧ 0 ≤ j ∧ j ≤ 127 := by
  have h1 : x = 32 * (x / 32) + x % 32 := by omega
  have h2 : x / 32 = 128 * (x / 4096) + x / 32 % 128 := by omega
  exact ⟨_, _, x / 4096, rfl, rfl, by omega, by omega, by omega, by omega⟩
theorem decB (x : Int) : ∃ e i j k l q, x % 2 = e ∧ x / 2048 % 2 = i ∧ x / 2 % 16 = j ∧ x / 32 % 64 = k ∧ x / 4096 % 2 = l ∧ x = e + 2 * j + 32 * k + 2048 * i + 4096 * l + 8192 * q ∧ (0 ≤ e ∧ e ≤ 1) ∧ (0 ≤ i ∧ i ≤ 1) ∧ (0 ≤ j ∧ j ≤ 15) ∧ (0 ≤ k ∧ k ≤ 63) ∧ 0 ≤ l ∧ l ≤ 1 := by
  have h1 : x = 2 * (x / 2) + x % 2 := by omega
  have h2 : x / 2 = 16 * (x / 32) + x / 2 % 16 := by omega
  have h3 : x / 32 = 64 * (x / 2048) + x / 32 % 64 := by omega
  have h4 : x / 2048 = 2 * (x / 4096) + x / 2048 % 2 := by omega
  have h5 : x / 4096 = 2 * (x / 8192) + x / 4096 % 2 := by omega
  refine ⟨_, _, _, _, _, x / 8192, rfl, rfl, rfl, rfl, rfl, ?_, by omega, by omega, by omega, by omega, by omega, by omega⟩
  generalize x / 8192 = a5 at *
  generalize x / 4096 % 2 = b5 at *
  generalize x / 4096 = a4 at *
  generalize x / 2048 % 2 = b4 at *
  generalize x / 2048 = a3 at *
  generalize x / 32 % 64 = b3 at *
  generalize x / 32 = a2 at *
  generalize x / 2 % 16 = b2 at *
  generalize x / 2 = a1 at *
  generalize x % 2 = b1 at *
  omega
theorem decJ (x : Int) : ∃ e i j k l q, x % 2 = e ∧ x / 4096 % 256 = i ∧ x / 2048 % 2 = j ∧ x / 2 % 1024 = k ∧ x / 1048576 % 2 = l ∧ x = e + 2 * k + 2048 * j + 4096 * i + 1048576 * l + 2097152 * q ∧ (0 ≤ e ∧ e ≤ 1) ∧ (0 ≤ i ∧ i ≤ 255) ∧ (0 ≤ j ∧ j ≤ 1) ∧ (0 ≤ k ∧ k ≤ 1023) ∧ 0 ≤ l ∧ l ≤ 1 := by
  have h1 : x = 2 * (x / 2) + x % 2 := by omega
  have h2 : x / 2 = 1024 * (x / 2048) + x / 2 % 1024 := by omega
  have h3 : x / 2048 = 2 * (x / 4096) + x / 2048 % 2 := by omega
  have h4 : x / 4096 = 256 * (x / 1048576) + x / 4096 % 256 := by omega
  have h5 : x / 1048576 = 2 * (x / 2097152) + x / 1048576 % 2 := by omega
  refine ⟨_, _, _, _, _, x / 2097152, rfl, rfl, rfl, rfl, rfl, ?_, by omega, by omega, by omega, by omega, by omega, by omega⟩
  generalize x / 2097152 = a5 at *
  generalize x / 1048576 % 2 = b5 at *
  generalize x / 1048576 = a4 at *
  generalize x / 4096 % 256 = b4 at *
  generalize x / 4096 = a3 at *
  generalize x / 2048 % 2 = b3 at *
  generalize x / 2048 = a2 at *
  generalize x / 2 % 1024 = b2 at *
  generalize x / 2 = a1 at *
  generalize x % 2 = b1 at *
  omega
theorem xtR (o f g r s t X : Int) (ho : 0 ≤ o ∧ o ≤ 127) (hf : 0 ≤ f ∧ f ≤ 7) (hg : 0 ≤ g ∧ g ≤ 127) (hr : 0 ≤ r ∧ r ≤ 31) (hs : 0 ≤ s ∧ s ≤ 31) (ht : 0 ≤ t ∧ t ≤ 31) (hX : X = o + r * 128 + f * 4096 + s * 32768 + t * 1048576 + g * 33554432) :
    (0 ≤ X ∧ X ≤ 4294967295) ∧ X / 128 % 32 = r ∧ X / 32768 % 32 = s ∧ X / 1048576 % 32 = t := by
  refine ⟨by omega, ?_, ?_, ?_⟩
  · rw [show X = (o) + r * 128 + (f + s * 8 + t * 256 + g * 8192) * (128 * 32) by omega]
    exact pick _ _ _ _ _ (by decide) (by omega) (by omega) (by omega) (by omega)
  · rw [show X = (o + r * 128 + f * 4096) + s * 32768 + (t + g * 32) * (32768 * 32) by omega]
    exact pick _ _ _ _ _ (by decide) (by omega) (by omega) (by omega) (by omega)
  · rw [show X = (o + r * 128 + f * 4096 + s * 32768) + t * 1048576 + (g) * (1048576 * 32) by omega]
    exact pick _ _ _ _ _ (by decide) (by omega) (by omega) (by omega) (by omega)
theorem rtR (o f g rd s1 s2 im X : Int) (ho : 0 ≤ o ∧ o ≤ 127) (hf : 0 ≤ f ∧ f ≤ 7) (hg : 0 ≤ g ∧ g ≤ 127) (hX : X = o + rd % 32 * 128 + f * 4096 + s1 % 32 * 32768 + s2 % 32 * 1048576 + g * 33554432) :
    (0 ≤ X ∧ X ≤ 4294967295) ∧ ((X / 128 % 32 = rd ∧ X / 32768 % 32 = s1 ∧ X / 1048576 % 32 = s2 ∧ 0 = im) ↔ vR rd s1 s2 im = true) := by
  obtain ⟨r, rq, r1, r2, r3⟩ := dec5 rd
  obtain ⟨s, sq, s1', s2', s3⟩ := dec5 s1
  obtain ⟨t, tq, t1, t2, t3⟩ := dec5 s2
  rw [r1, s1', t1] at hX
  obtain ⟨hb, x0, x1, x2⟩ := xtR o f g r s t X ho hf hg (by omega) (by omega) (by omega) hX
  refine ⟨hb, ?_⟩
  unfold vR
  rw [decide_eq_true_eq, x0, x1, x2]
  clear hX x0 x1 x2 hb ho hf hg r1 s1' t1
  omega
theorem exI (o f r s i X : Int) (ho : 0 ≤ o ∧ o ≤ 127) (hf : 0 ≤ f ∧ f ≤ 7) (hr : 0 ≤ r ∧ r ≤ 31) (hs : 0 ≤ s ∧ s ≤ 31) (hi : 0 ≤ i ∧ i ≤ 4095) (hX : X = o + r * 128 + f * 4096 + s * 32768 + i * 1048576) :
    (0 ≤ X ∧ X ≤ 4294967295) ∧ X / 128 % 32 = r ∧ X / 32768 % 32 = s ∧ X / 1048576 % 4096 = i := by
  refine ⟨by omega, ?_, ?_, ?_⟩
  · rw [show X = (o) + r * 128 + (f + s * 8 + i * 256) * (128 * 32) by omega]
    exact pick _ _ _ _ _ (by decide) (by omega) (by omega) (by omega) (by omega)
  · rw [show X = (o + r * 128 + f * 4096) + s * 32768 + (i) * (32768 * 32) by omega]
    exact pick _ _ _ _ _ (by decide) (by omega) (by omega) (by omega) (by omega)
  · rw [show X = (o + r * 128 + f * 4096 + s * 32768) + i * 1048576 + (0) * (1048576 * 4096) by omega]
    exact pick _ _ _ _ _ (by decide) (by omega) (by omega) (by omega) (by omega)
theorem rtI (o f rd s1 s2 im X : Int) (ho : 0 ≤ o ∧ o ≤ 127) (hf : 0 ≤ f ∧ f ≤ 7) (hX : X = o + rd % 32 * 128 + f * 4096 + s1 % 32 * 32768 + im % 4096 * 1048576) :
    (0 ≤ X ∧ X ≤ 4294967295) ∧ ((X / 128 % 32 = rd ∧ X / 32768 % 32 = s1 ∧ 0 = s2 ∧ sg (X / 1048576 % 4096) 2048 4096 = im) ↔ vI rd s1 s2 im = true) := by
  obtain ⟨r, rq, r1, r2, r3⟩ := dec5 rd
  obtain ⟨s, sq, s1', s2', s3⟩ := dec5 s1
  obtain ⟨i, iq, i1, i2, i3⟩ := decI im
  rw [r1, s1', i1] at hX
  obtain ⟨hb, x0, x1, x2⟩ := exI o f r s i X ho hf (by omega) (by omega) (by omega) hX
  refine ⟨hb, ?_⟩
  unfold vI
  rw [decide_eq_true_eq, x0, x1, x2]
  clear hX x0 x1 x2 hb ho hf r1 s1' i1
  have hs := sg_cases (i) 2048 4096
  generalize sg (i) 2048 4096 = z at *
  omega
theorem exH (o f g r s i X : Int) (ho : 0 ≤ o ∧ o ≤ 127) (hf : 0 ≤ f ∧ f ≤ 7) (hg : 0 ≤ g ∧ g ≤ 127) (hr : 0 ≤ r ∧ r ≤ 31) (hs : 0 ≤ s ∧ s ≤ 31) (hi : 0 ≤ i ∧ i ≤ 31) (hX : X = o + r * 128 + f * 4096 + s * 32768 + i * 1048576 + g * 33554432) :
    (0 ≤ X ∧ X ≤ 4294967295) ∧ X / 128 % 32 = r ∧ X / 32768 % 32 = s ∧ X / 1048576 % 32 = i := by
  refine ⟨by omega, ?_, ?_, ?_⟩
  · rw [show X = (o) + r * 128 + (f + s * 8 + i * 256 + g * 8192) * (128 * 32) by omega]
    exact pick _ _ _ _ _ (by decide) (by omega) (by omega) (by omega) (by omega)
  · rw [show X = (o + r * 128 + f * 4096) + s * 32768 + (i + g * 32) * (32768 * 32) by omega]
    exact pick _ _ _ _ _ (by decide) (by omega) (by omega) (by omega) (by omega)
  · rw [show X = (o + r * 128 + f * 4096 + s * 32768) + i * 1048576 + (g) * (1048576 * 32) by omega]
    exact pick _ _ _ _ _ (by decide) (by omega) (by omega) (by omega) (by omega)
theorem rtH (o f g rd s1 s2 im X : Int) (ho : 0 ≤ o ∧ o ≤ 127) (hf : 0 ≤ f ∧ f ≤ 7) (hg : 0 ≤ g ∧ g ≤ 127) (hX : X = o + rd % 32 * 128 + f * 4096 + s1 % 32 * 32768 + im % 32 * 1048576 + g * 33554432) :
    (0 ≤ X ∧ X ≤ 4294967295) ∧ ((X / 128 % 32 = rd ∧ X / 32768 % 32 = s1 ∧ 0 = s2 ∧ X / 1048576 % 32 = im) ↔ vH rd s1 s2 im = true) := by
  obtain ⟨r, rq, r1, r2, r3⟩ := dec5 rd
  obtain ⟨s, sq, s1', s2', s3⟩ := dec5 s1
  obtain ⟨i, iq, i1, i2, i3⟩ := dec5 im
  rw [r1, s1', i1] at hX
  obtain ⟨hb, x0, x1, x2⟩ := exH o f g r s i X ho hf hg (by omega) (by omega) (by omega) hX
  refine ⟨hb, ?_⟩
  unfold vH
  rw [decide_eq_true_eq, x0, x1, x2]
  clear hX x0 x1 x2 hb ho hf hg r1 s1' i1
  omega
theorem exS (o f s t i j X : Int) (ho : 0 ≤ o ∧ o ≤ 127) (hf : 0 ≤ f ∧ f ≤ 7) (hs : 0 ≤ s ∧ s ≤ 31) (ht : 0 ≤ t ∧ t ≤ 31) (hi : 0 ≤ i ∧ i ≤ 31) (hj : 0 ≤ j ∧ j ≤ 127) (hX : X = o + i * 128 + f * 4096 + s * 32768 + t * 1048576 + j * 33554432) :
    (0 ≤ X ∧ X ≤ 4294967295) ∧ X / 32768 % 32 = s ∧ X / 1048576 % 32 = t ∧ X / 128 % 32 = i ∧ X / 33554432 % 128 = j := by
  refine ⟨by omega, ?_, ?_, ?_, ?_⟩
  · rw [show X = (o + i * 128 + f * 4096) + s * 32768 + (t + j * 32) * (32768 * 32) by omega]
    exact pick _ _ _ _ _ (by decide) (by omega) (by omega) (by omega) (by omega)
  · rw [show X = (o + i * 128 + f * 4096 + s * 32768) + t * 1048576 + (j) * (1048576 * 32) by omega]
    exact pick _ _ _ _ _ (by decide) (by omega) (by omega) (by omega) (by omega)
  · rw [show X = (o) + i * 128 + (f + s * 8 + t * 256 + j * 8192) * (128 * 32) by omega]
    exact pick _ _ _ _ _ (by decide) (by omega) (by omega) (by omega) (by omega)
  · rw [show X = (o + i * 128 + f * 4096 + s * 32768 + t * 1048576) + j * 33554432 + (0) * (33554432 * 128) by omega]
    exact pick _ _ _ _ _ (by decide) (by omega) (by omega) (by omega) (by omega)
theorem rtS (o f rd s1 s2 im X : Int) (ho : 0 ≤ o ∧ o ≤ 127) (hf : 0 ≤ f ∧ f ≤ 7) (hX : X = o + im % 32 * 128 + f * 4096 + s1 % 32 * 32768 + s2 % 32 * 1048576 + im / 32 % 128 * 33554432) :
    (0 ≤ X ∧ X ≤ 4294967295) ∧ ((0 = rd ∧ X / 32768 % 32 = s1 ∧ X / 1048576 % 32 = s2 ∧ sg (X / 128 % 32 + X / 33554432 % 128 * 32) 2048 4096 = im) ↔ vS rd s1 s2 im = true) := by
  obtain ⟨s, sq, s1', s2', s3⟩ := dec5 s1
  obtain ⟨t, tq, t1, t2, t3⟩ := dec5 s2
  obtain ⟨i, j, iq, i1, j1, i2, i3, j3⟩ := decS im
  rw [s1', t1, i1, j1] at hX
  obtain ⟨hb, x0, x1, x2, x3⟩ := exS o f s t i j X ho hf (by omega) (by omega) (by omega) (by omega) hX
  refine ⟨hb, ?_⟩
  unfold vS
  rw [decide_eq_true_eq, x0, x1, x2, x3]
  clear hX x0 x1 x2 x3 hb ho hf s1' t1 i1 j1
  have hs := sg_cases (i + j * 32) 2048 4096
  generalize sg (i + j * 32) 2048 4096 = z at *
  omega
theorem exB (o f s t i j k l X : Int) (ho : 0 ≤ o ∧ o ≤ 127) (hf : 0 ≤ f ∧ f ≤ 7) (hs : 0 ≤ s ∧ s ≤ 31) (ht : 0 ≤ t ∧ t ≤ 31) (hi : 0 ≤ i ∧ i ≤ 1) (hj : 0 ≤ j ∧ j ≤ 15) (hk : 0 ≤ k ∧ k ≤ 63) (hl : 0 ≤ l ∧ l ≤ 1) (hX : X = o + i * 128 + j * 256 + f * 4096 + s * 32768 + t * 1048576 + k * 33554432 + l * 2147483648) :
    (0 ≤ X ∧ X ≤ 4294967295) ∧ X / 32768 % 32 = s ∧ X / 1048576 % 32 = t ∧ X / 128 % 2 = i ∧ X / 256 % 16 = j ∧ X / 33554432 % 64 = k ∧ X / 2147483648 % 2 = l := by
  refine ⟨by omega, ?_, ?_, ?_, ?_, ?_, ?_⟩
  · rw [show X = (o + i * 128 + j * 256 + f * 4096) + s * 32768 + (t + k * 32 + l * 2048) * (32768 * 32) by omega]
    exact pick _ _ _ _ _ (by decide) (by omega) (by omega) (by omega) (by omega)
  · rw [show X = (o + i * 128 + j * 256 + f * 4096 + s * 32768) + t * 1048576 + (k + l * 64) * (1048576 * 32) by omega]
    exact pick _ _ _ _ _ (by decide) (by omega) (by omega) (by omega) (by omega)
  · rw [show X = (o) + i * 128 + (j + f * 16 + s * 128 + t * 4096 + k * 131072 + l * 8388608) * (128 * 2) by omega]
    exact pick _ _ _ _ _ (by decide) (by omega) (by omega) (by omega) (by omega)
  · rw [show X = (o + i * 128) + j * 256 + (f + s * 8 + t * 256 + k * 8192 + l * 524288) * (256 * 16) by omega]
    exact pick _ _ _ _ _ (by decide) (by omega) (by omega) (by omega) (by omega)
  · rw [show X = (o + i * 128 + j * 256 + f * 4096 + s * 32768 + t * 1048576) + k * 33554432 + (l) * (33554432 * 64) by omega]
    exact pick _ _ _ _ _ (by decide) (by omega) (by omega) (by omega) (by omega)
  · rw [show X = (o + i * 128 + j * 256 + f * 4096 + s * 32768 + t * 1048576 + k * 33554432) + l * 2147483648 + (0) * (2147483648 * 2) by omega]
    exact pick _ _ _ _ _ (by decide) (by omega) (by omega) (by omega) (by omega)
theorem rtB (o f rd s1 s2 im X : Int) (ho : 0 ≤ o ∧ o ≤ 127) (hf : 0 ≤ f ∧ f ≤ 7) (hX : X = o + im / 2048 % 2 * 128 + im / 2 % 16 * 256 + f * 4096 + s1 % 32 * 32768 + s2 % 32 * 1048576 + im / 32 % 64 * 33554432 + im / 4096 % 2 * 2147483648) :
    (0 ≤ X ∧ X ≤ 4294967295) ∧ ((0 = rd ∧ X / 32768 % 32 = s1 ∧ X / 1048576 % 32 = s2 ∧ sg (X / 256 % 16 * 2 + X / 33554432 % 64 * 32 + X / 128 % 2 * 2048 + X / 2147483648 % 2 * 4096) 4096 8192 = im) ↔ vB rd s1 s2 im = true) := by
  obtain ⟨s, sq, s1', s2', s3⟩ := dec5 s1
  obtain ⟨t, tq, t1, t2, t3⟩ := dec5 s2
  obtain ⟨e, i, j, k, l, iq, e1, i1, j1, k1, l1, i2, e3, i3, j3, k3, l3⟩ := decB im
  rw [s1', t1, i1, j1, k1, l1] at hX
  obtain ⟨hb, x0, x1, x2, x3, x4, x5⟩ := exB o f s t i j k l X ho hf (by omega) (by omega) (by omega) (by omega) (by omega) (by omega) hX
  refine ⟨hb, ?_⟩
  unfold vB
  rw [decide_eq_true_eq, x0, x1, x2, x3, x4, x5]
  clear hX x0 x1 x2 x3 x4 x5 hb ho hf s1' t1 i1 j1 k1 l1
  have hs := sg_cases (j * 2 + k * 32 + i * 2048 + l * 4096) 4096 8192
  generalize sg (j * 2 + k * 32 + i * 2048 + l * 4096) 4096 8192 = z at *
  omega
theorem xtU (o r i X : Int) (ho : 0 ≤ o ∧ o ≤ 127) (hr : 0 ≤ r ∧ r ≤ 31) (hi : 0 ≤ i ∧ i ≤ 1048575) (hX : X = o + r * 128 + i * 4096) :
    (0 ≤ X ∧ X ≤ 4294967295) ∧ X / 128 % 32 = r ∧ X / 4096 % 1048576 = i := by
  refine ⟨by omega, ?_, ?_⟩
  · rw [show X = (o) + r * 128 + (i) * (128 * 32) by omega]
    exact pick _ _ _ _ _ (by decide) (by omega) (by omega) (by omega) (by omega)
  · rw [show X = (o + r * 128) + i * 4096 + (0) * (4096 * 1048576) by omega]
    exact pick _ _ _ _ _ (by decide) (by omega) (by omega) (by omega) (by omega)
theorem rtU (o rd s1 s2 im X : Int) (ho : 0 ≤ o ∧ o ≤ 127) (hX : X = o + rd % 32 * 128 + im % 1048576 * 4096) :
    (0 ≤ X ∧ X ≤ 4294967295) ∧ ((X / 128 % 32 = rd ∧ 0 = s1 ∧ 0 = s2 ∧ X / 4096 % 1048576 = im) ↔ vU rd s1 s2 im = true) := by
  obtain ⟨r, rq, r1, r2, r3⟩ := dec5 rd
  obtain ⟨i, iq, i1, i2, i3⟩ := decU im
  rw [r1, i1] at hX
  obtain ⟨hb, x0, x1⟩ := xtU o r i X ho (by omega) (by omega) hX
  refine ⟨hb, ?_⟩
  unfold vU
  rw [decide_eq_true_eq, x0, x1]
  clear hX x0 x1 hb ho r1 i1
  omega
theorem xtJ (o r i j k l X : Int) (ho : 0 ≤ o ∧ o ≤ 127) (hr : 0 ≤ r ∧ r ≤ 31) (hi : 0 ≤ i ∧ i ≤ 255) (hj : 0 ≤ j ∧ j ≤ 1) (hk : 0 ≤ k ∧ k ≤ 1023) (hl : 0 ≤ l ∧ l ≤ 1) (hX : X = o + r * 128 + i * 4096 + j * 1048576 + k * 2097152 + l * 2147483648) :
    (0 ≤ X ∧ X ≤ 4294967295) ∧ X / 128 % 32 = r ∧ X / 4096 % 256 = i ∧ X / 1048576 % 2 = j ∧ X / 2097152 % 1024 = k ∧ X / 2147483648 % 2 = l := by
  refine ⟨by omega, ?_, ?_, ?_, ?_, ?_⟩
  · rw [show X = (o) + r * 128 + (i + j * 256 + k * 512 + l * 524288) * (128 * 32) by omega]
    exact pick _ _ _ _ _ (by decide) (by omega) (by omega) (by omega) (by omega)
  · rw [show X = (o + r * 128) + i * 4096 + (j + k * 2 + l * 2048) * (4096 * 256) by omega]
    exact pick _ _ _ _ _ (by decide) (by omega) (by omega) (by omega) (by omega)
  · rw [show X = (o + r * 128 + i * 4096) + j * 1048576 + (k + l * 1024) * (1048576 * 2) by omega]
    exact pick _ _ _ _ _ (by decide) (by omega) (by omega) (by omega) (by omega)
  · rw [show X = (o + r * 128 + i * 4096 + j * 1048576) + k * 2097152 + (l) * (2097152 * 1024) by omega]
    exact pick _ _ _ _ _ (by decide) (by omega) (by omega) (by omega) (by omega)
  · rw [show X = (o + r * 128 + i * 4096 + j * 1048576 + k * 2097152) + l * 2147483648 + (0) * (2147483648 * 2) by omega]
    exact pick _ _ _ _ _ (by decide) (by omega) (by omega) (by omega) (by omega)
theorem rtJ (o rd s1 s2 im X : Int) (ho : 0 ≤ o ∧ o ≤ 127) (hX : X = o + rd % 32 * 128 + im / 4096 % 256 * 4096 + im / 2048 % 2 * 1048576 + im / 2 % 1024 * 2097152 + im / 1048576 % 2 * 2147483648) :
    (0 ≤ X ∧ X ≤ 4294967295) ∧ ((X / 128 % 32 = rd ∧ 0 = s1 ∧ 0 = s2 ∧ sg (X / 2097152 % 1024 * 2 + X / 1048576 % 2 * 2048 + X / 4096 % 256 * 4096 + X / 2147483648 % 2 * 1048576) 1048576 2097152 = im) ↔ vJ rd s1 s2 im = true) := by
  obtain ⟨r, rq, r1, r2, r3⟩ := dec5 rd
  obtain ⟨e, i, j, k, l, iq, e1, i1, j1, k1, l1, i2, e3, i3, j3, k3, l3⟩ := decJ im
  rw [r1, i1, j1, k1, l1] at hX
  obtain ⟨hb, x0, x1, x2, x3, x4⟩ := xtJ o r i j k l X ho (by omega) (by omega) (by omega) (by omega) (by omega) hX
  refine ⟨hb, ?_⟩
  unfold vJ
  rw [decide_eq_true_eq, x0, x1, x2, x3, x4]
  clear hX x0 x1 x2 x3 x4 hb ho r1 i1 j1 k1 l1
  have hs := sg_cases (k * 2 + j * 2048 + i * 4096 + l * 1048576) 1048576 2097152
  generalize sg (k * 2 + j * 2048 + i * 4096 + l * 1048576) 1048576 2097152 = z at *
  omega
theorem rtE (o rd s1 s2 im X : Int) (ho : 0 ≤ o ∧ o ≤ 127) (hX : X = o) :
    (0 ≤ X ∧ X ≤ 4294967295) ∧ ((0 = rd ∧ 0 = s1 ∧ 0 = s2 ∧ 0 = im) ↔ vE rd s1 s2 im = true) := by
  refine ⟨by omega, ?_⟩
  unfold vE
  rw [decide_eq_true_eq]
  omega
end Go.Proofs.Ytabjcodpagjbjaa

namespace Go.Proofs.Ytabjcodpagjbjaa
open Go.RowKit
set_option linter.unusedVariables false
set_option linter.unusedSimpArgs false
theorem store_tab {ops : Array Oper} {rest : List Oper} {op : Oper} {a : Act} {w : World} {Q : Exit → Act → World → Prop} (hgd : op.guard = none) (x y : Operand) (ho : op.op = .store 56 x y)
    (w1 : World) (hw : w = w1.alloc (.cells zeroA 56)) (hx : a.eval x = .pointer (some ⟨w1.heap.size, 0, none⟩)) (hy : a.eval y = .agg tabA)
    (h : ∀ W2 : World, (∀ j, j < 35 → W2.cell? ⟨w1.heap.size, j, none⟩ = tabA[j]?) → Below w1.heap.size w1 W2 → w1.heap.size < W2.heap.size → wpList Try.prog ops Q rest (a.put op.dst undef) W2) :
    wpList Try.prog ops Q (op :: rest) a w := by
  subst hw
  have ht := there_new w1 zeroA 56 35 (Nat.le_refl 35)
  refine wpList_store_mid hgd 56 x y ho w1.heap.size 0 tabA hx hy ht Try.info56 tab_one (h _ ?_ ?_ ?_)
  · intro j hj
    have hj' : j < tabA.toList.length := hj
    have := World.cell?_setCells_in w1.heap.size tabA.toList 0 _ (fun i hi => (ht i hi).1) j hj'
    rw [Nat.zero_add] at this
    rw [this]
    simp
  · exact below_setCells (Nat.le_refl _) _ _ _ ((Below.refl _ _).alloc (Nat.le_refl _) _)
  · have : (w1.alloc (.cells zeroA 56)).heap.size ≤ ((w1.alloc (.cells zeroA 56)).setCells w1.heap.size 0 tabA.toList).heap.size := (below_setCells (B := 0) (Nat.zero_le _) tabA.toList 0 _ (Below.refl _ _)).size
    simp at this
    omega

theorem box5' {w w' : World} {t : TypeId} {a b c d e : Value} (h : Below (w.heap.size + 1) (w.alloc (.cells #[a, b, c, d, e] t)) w') :
    w'.cell? ⟨w.heap.size, 0, none⟩ = some a ∧ w'.cell? ⟨w.heap.size, 1, none⟩ = some b ∧ w'.cell? ⟨w.heap.size, 2, none⟩ = some c ∧ w'.cell? ⟨w.heap.size, 3, none⟩ = some d ∧ w'.cell? ⟨w.heap.size, 4, none⟩ = some e := by
  refine ⟨?_, ?_, ?_, ?_, ?_⟩ <;> (rw [h.cell (by simp)]; simp)

theorem later {W W' : World} (hb : Below W.heap.size W W') {b o : Nat} {v : Value} (h : W.cell? ⟨b, o, none⟩ = some v) : W'.cell? ⟨b, o, none⟩ = some v := by
  rw [hb.cell (p := ⟨b, o, none⟩) (World.block_lt_of_cell? _ _ h)]; exact h
theorem six_later {W W' : World} {b c j : Nat} {v0 v1 v2 v3 v4 t : Value} (hb : Below W.heap.size W W') 
    (k : W.cell? ⟨b, 0, none⟩ = some v0 ∧ W.cell? ⟨b, 1, none⟩ = some v1 ∧ W.cell? ⟨b, 2, none⟩ = some v2 ∧ W.cell? ⟨b, 3, none⟩ = some v3 ∧ W.cell? ⟨b, 4, none⟩ = some v4) (h : W.cell? ⟨c, j, none⟩ = some t) :
    (W'.cell? ⟨b, 0, none⟩ = some v0 ∧ W'.cell? ⟨b, 1, none⟩ = some v1 ∧ W'.cell? ⟨b, 2, none⟩ = some v2 ∧ W'.cell? ⟨b, 3, none⟩ = some v3 ∧ W'.cell? ⟨b, 4, none⟩ = some v4) ∧ W'.cell? ⟨c, j, none⟩ = some t :=
  ⟨⟨later hb k.1, later hb k.2.1, later hb k.2.2.1, later hb k.2.2.2.1, later hb k.2.2.2.2⟩, later hb h⟩
theorem below_drew' (W : World) : Below W.heap.size W W.drew := (Below.refl _ _).drew
end Go.Proofs.Ytabjcodpagjbjaa

namespace Go.Proofs.Ytabjcodpagjbjaa
open Go.RowKit
set_option linter.unusedVariables false
set_option linter.unusedSimpArgs false
theorem tabR (op : Int) (h : 21 ≤ op ∧ op ≤ 33) : tabA[op.toNat]? = some (.iface 95 (.agg #[.int .u32 (oc op), .int .u32 (f3 op), .int .u32 (f7 op)])) := by
  obtain ⟨n, rfl⟩ : ∃ n : Nat, op = n := ⟨op.toNat, by omega⟩
  have h1 : n = 21 ∨ n = 22 ∨ n = 23 ∨ n = 24 ∨ n = 25 ∨ n = 26 ∨ n = 27 ∨ n = 28 ∨ n = 29 ∨ n = 30 ∨ n = 31 ∨ n = 32 ∨ n = 33 := by omega
  rcases h1 with rfl | rfl | rfl | rfl | rfl | rfl | rfl | rfl | rfl | rfl | rfl | rfl | rfl
  all_goals rfl
theorem mwR (a b c : Int) (W : World) : (method 244 95 (.agg #[.int .u32 a, .int .u32 b, .int .u32 c]) "loop.example/s01725/impl.word").run Try.prog W = .ok (130, .agg #[.int .u32 a, .int .u32 b, .int .u32 c]) W := by kernel_rfl
theorem miR (a b c : Int) (W : World) : (method 244 95 (.agg #[.int .u32 a, .int .u32 b, .int .u32 c]) "loop.example/s01725/impl.inst").run Try.prog W = .ok (129, .agg #[.int .u32 a, .int .u32 b, .int .u32 c]) W := by kernel_rfl
theorem tabI (op : Int) (h : op = 3 ∨ op = 10 ∨ (12 ≤ op ∧ op ≤ 17)) : tabA[op.toNat]? = some (.iface 90 (.agg #[.int .u32 (oc op), .int .u32 (f3 op)])) := by
  obtain ⟨n, rfl⟩ : ∃ n : Nat, op = n := ⟨op.toNat, by omega⟩
  have h1 : n = 3 ∨ n = 10 ∨ n = 12 ∨ n = 13 ∨ n = 14 ∨ n = 15 ∨ n = 16 ∨ n = 17 := by omega
  rcases h1 with rfl | rfl | rfl | rfl | rfl | rfl | rfl | rfl
  all_goals rfl
theorem mwI (a b : Int) (W : World) : (method 244 90 (.agg #[.int .u32 a, .int .u32 b]) "loop.example/s01725/impl.word").run Try.prog W = .ok (117, .agg #[.int .u32 a, .int .u32 b]) W := by kernel_rfl
theorem miI (a b : Int) (W : World) : (method 244 90 (.agg #[.int .u32 a, .int .u32 b]) "loop.example/s01725/impl.inst").run Try.prog W = .ok (116, .agg #[.int .u32 a, .int .u32 b]) W := by kernel_rfl
end Go.Proofs.Ytabjcodpagjbjaa
