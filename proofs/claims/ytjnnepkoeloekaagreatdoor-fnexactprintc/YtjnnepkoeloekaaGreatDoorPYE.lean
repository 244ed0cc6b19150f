import Derived.Test.YtjnnepkoeloekaaGreatDoorPYC
import Derived.Test.YtjnnepkoeloekaaGreatDoorPYD
set_option linter.unusedSectionVars false
variable [Inhabited Go.Proofs.YtjnnepkoeloekaaGreatDoor.Pick]
namespace Go.Proofs.YtjnnepkoeloekaaGreatDoor
open Go.RowKit
set_option linter.unusedVariables false
set_option linter.unusedSimpArgs false

/-- What lines does at a slice whose statements have the text t. -/
def LinesSpec (w0 : World) (P : Nat) (v : Value) (t : List UInt8) : Prop :=
  ∀ (l : List UInt8) (w : World), Below w0.heap.size w0 w → Out w P l → l.length + t.length ≤ 900000000 →
    Calls Tryz.prog 39 #[.pointer (some ⟨P, 0, none⟩), v] w fun x w' => (∃ u, x = .returned u) ∧ Out w' P (l ++ t) ∧ Wr P w w'
/-- What line does with an expression. -/
def LineSpec (w0 : World) (P : Nat) (v : Value) (t : List UInt8) : Prop :=
  ∀ (a b l : List UInt8) (w : World), Below w0.heap.size w0 w → Out w P l → l.length + (a.length + (t.length + b.length)) ≤ 900000000 →
    Calls Tryz.prog 81 #[.pointer (some ⟨P, 0, none⟩), .string (tx a), v, .string (tx b)] w fun x w' => (∃ u, x = .returned u) ∧ Out w' P (l ++ (a ++ (t ++ b))) ∧ Wr P w w'
theorem out_box {w : World} {P : Nat} {l : List UInt8} (hO : Out w P l) (o : Obj) : Out (w.alloc o) P l ∧ Wr P w (w.alloc o) ∧ Far P (w.alloc o) w.heap.size := by
  have hb : Below w.heap.size w (w.alloc o) := (Below.refl _ _).alloc (Nat.le_refl _) o
  exact ⟨hO.below hb, Wr.below hO.1 hb, far_new hO hb (Nat.le_refl _) (by simp)⟩
theorem line_box {w0 w : World} {P : Nat} {v : Value} {t l : List UInt8} (h : LineSpec w0 P v t) (hB : Below w0.heap.size w0 w) (hO : Out w P l) (o : Obj) (a b : List UInt8) (hl : l.length + (a.length + (t.length + b.length)) ≤ 900000000) :
    Calls Tryz.prog 81 #[.pointer (some ⟨P, 0, none⟩), .string (tx a), v, .string (tx b)] (w.alloc o) fun x w' => (∃ u, x = .returned u) ∧ Out w' P (l ++ (a ++ (t ++ b))) ∧ Wr P (w.alloc o) w' :=
  h a b l (w.alloc o) (hB.trans (((Below.refl _ _).alloc (Nat.le_refl _) o).mono hB.size)) (out_box hO o).1 hl

set_option maxRecDepth 100000 in
set_option maxHeartbeats 4000000 in
theorem stmt_any (w0 : World) (P : Nat) (h0 : w0.heap.size ≤ P) (s : St) (hs : GoodS s) (ve vf va vb : Value) (ta tb : List UInt8) (hE : LineSpec w0 P ve (shw s.e)) (hF : s.kind = 3 → LineSpec w0 P vf (shw s.f)) (hA : LinesSpec w0 P va ta) (hBl : LinesSpec w0 P vb tb) (l : List UInt8) (w : World) (hB : Below w0.heap.size w0 w) (hO : Out w P l) (hl : l.length + (stmtT s ta tb).length ≤ 900000000) :
    Calls Tryz.prog 63 #[.pointer (some ⟨P, 0, none⟩), .agg #[.int .i64 s.kind, .string s.name, ve, vf, .int .i64 s.thn, .int .i64 s.els], va, vb] w fun x w' => (∃ u, x = .returned u) ∧ Out w' P (l ++ stmtT s ta tb) ∧ Wr P w w' := by
  have HE : Hid (LineSpec w0 P ve (shw s.e)) := hE
  have HF : Hid (s.kind = 3 → LineSpec w0 P vf (shw s.f)) := hF
  have HA : Hid (LinesSpec w0 P va ta) := hA
  have HBl : Hid (LinesSpec w0 P vb tb) := hBl
  have HB : Hid (Below w0.heap.size w0 w) := hB
  have HO : Hid (Out w P l) := hO
  obtain ⟨hlo, hhi, -, -, -⟩ := hs
  clear hE hF hA hBl hB hO
  obtain ⟨sk, nm, se, sf, th, el⟩ := s
  obtain ⟨nl, rfl⟩ : ∃ nl, nm = tx nl := ⟨_, (tx_back nm).symm⟩
  simp only at hlo hhi HE HF
  generalize hTx : stmtT ⟨sk, tx nl, se, sf, th, el⟩ ta tb = T at hl ⊢
  have HTx : Hid (stmtT ⟨sk, tx nl, se, sf, th, el⟩ ta tb = T) := hTx
  have HL : Hid (l.length + T.length ≤ 900000000) := hl
  clear hl hTx
  show Calls Tryz.prog 63 #[.pointer (some ⟨P, 0, none⟩), .agg #[.int .i64 sk, .string (tx nl), ve, vf, .int .i64 th, .int .i64 el], va, vb] w _
  have hk : sk = 1 ∨ sk = 2 ∨ sk = 3 ∨ sk = 4 ∨ sk = 5 ∨ sk = 6 ∨ sk = 7 ∨ sk = 8 := by omega
  clear hlo hhi
  rcases hk with rfl | rfl | rfl | rfl | rfl | rfl | rfl | rfl
  · -- a declaration
    have HQ : Hid (T = [105, 110, 116, 32] ++ nl ++ [32, 61, 32] ++ (shw se ++ [59, 10])) := HTx.out.symm.trans (by simp [stmtT, tx])
    rw [HQ.out] at HL
    have hn : nl.length ≤ 900000000 := by have := HL.out; simp only [List.length_append] at this; omega
    have hE1 : (⟨#[105, 110, 116, 32]⟩ : ByteArray) ++ tx nl = tx ([105, 110, 116, 32] ++ nl) := tx_append [105, 110, 116, 32] nl
    have hE2 : tx ([105, 110, 116, 32] ++ nl) ++ (⟨#[32, 61, 32]⟩ : ByteArray) = tx ([105, 110, 116, 32] ++ nl ++ [32, 61, 32]) := tx_append _ [32, 61, 32]
    have hs1 : ((tx nl).size : Int) ≤ 1000000000 := by rw [tx_size]; omega
    have hs2 : ((tx ([105, 110, 116, 32] ++ nl)).size : Int) ≤ 1000000000 := by rw [tx_size]; simp; omega
    have z1 : (⟨#[105, 110, 116, 32]⟩ : ByteArray).size = 4 := rfl
    have z2 : (⟨#[32, 61, 32]⟩ : ByteArray).size = 3 := rfl
    have hC := fun o => line_box HE.out HB.out HO.out o ([105, 110, 116, 32] ++ nl ++ [32, 61, 32]) [59, 10] (by have := HL.out; simp only [List.length_append] at *; omega)
    generalize tx ([105, 110, 116, 32] ++ nl ++ [32, 61, 32]) = X2 at hE2 hC
    generalize tx ([105, 110, 116, 32] ++ nl) = X1 at hE1 hE2 hs2
    have HC : Hid (∀ o, Calls Tryz.prog 81 #[.pointer (some ⟨P, 0, none⟩), .string X2, ve, .string ⟨#[59, 10]⟩] (w.alloc o) fun x w' => (∃ u, x = .returned u) ∧ Out w' P (l ++ ([105, 110, 116, 32] ++ nl ++ [32, 61, 32] ++ (shw se ++ [59, 10]))) ∧ Wr P (w.alloc o) w') := hC
    clear hC
    go_enter Tryz.func63, Tryz.ntmps63
    go_wp2_with fail
    refine (HC.out _).mono ?_
    rintro x w1 ⟨⟨u, rfl⟩, hO1, hW1⟩
    have HO1 : Hid (Out w1 P (l ++ ([105, 110, 116, 32] ++ nl ++ [32, 61, 32] ++ (shw se ++ [59, 10])))) := hO1
    have HW1 : Hid (Wr P w w1) := (out_box HO.out _).2.1.trans hW1
    clear hO1 hW1
    go_wp2_with fail
    go_end0
    refine ⟨⟨_, rfl⟩, ?_, HW1.out⟩
    rw [HQ.out]
    exact HO1.out
  · -- a setting
    have HQ : Hid (T = nl ++ [32, 61, 32] ++ (shw se ++ [59, 10])) := HTx.out.symm.trans (by simp [stmtT, tx])
    rw [HQ.out] at HL
    have hn : nl.length ≤ 900000000 := by have := HL.out; simp only [List.length_append] at this; omega
    have hE2 : tx nl ++ (⟨#[32, 61, 32]⟩ : ByteArray) = tx (nl ++ [32, 61, 32]) := tx_append _ [32, 61, 32]
    have hs1 : ((tx nl).size : Int) ≤ 1000000000 := by rw [tx_size]; omega
    have z2 : (⟨#[32, 61, 32]⟩ : ByteArray).size = 3 := rfl
    have hC := fun o => line_box HE.out HB.out HO.out o (nl ++ [32, 61, 32]) [59, 10] (by have := HL.out; simp only [List.length_append] at *; omega)
    generalize tx (nl ++ [32, 61, 32]) = X2 at hE2 hC
    have HC : Hid (∀ o, Calls Tryz.prog 81 #[.pointer (some ⟨P, 0, none⟩), .string X2, ve, .string ⟨#[59, 10]⟩] (w.alloc o) fun x w' => (∃ u, x = .returned u) ∧ Out w' P (l ++ (nl ++ [32, 61, 32] ++ (shw se ++ [59, 10]))) ∧ Wr P (w.alloc o) w') := hC
    clear hC
    go_enter Tryz.func63, Tryz.ntmps63
    go_wp2_with fail
    refine (HC.out _).mono ?_
    rintro x w1 ⟨⟨u, rfl⟩, hO1, hW1⟩
    have HO1 : Hid (Out w1 P (l ++ (nl ++ [32, 61, 32] ++ (shw se ++ [59, 10])))) := hO1
    have HW1 : Hid (Wr P w w1) := (out_box HO.out _).2.1.trans hW1
    clear hO1 hW1
    go_wp2_with fail
    go_end0
    refine ⟨⟨_, rfl⟩, ?_, HW1.out⟩
    rw [HQ.out]
    exact HO1.out
  · -- a store
    have HQ : Hid (T = nl ++ [91] ++ (shw se ++ [93, 32, 61, 32]) ++ ([] ++ (shw sf ++ [59, 10]))) := HTx.out.symm.trans (by simp [stmtT, tx])
    rw [HQ.out] at HL
    have HF3 : Hid (LineSpec w0 P vf (shw sf)) := HF.out rfl
    have hn : nl.length ≤ 900000000 := by have := HL.out; simp only [List.length_append] at this; omega
    have hE2 : tx nl ++ (⟨#[91]⟩ : ByteArray) = tx (nl ++ [91]) := tx_append _ [91]
    have hs1 : ((tx nl).size : Int) ≤ 1000000000 := by rw [tx_size]; omega
    have z2 : (⟨#[91]⟩ : ByteArray).size = 1 := rfl
    have hC := fun o => line_box HE.out HB.out HO.out o (nl ++ [91]) [93, 32, 61, 32] (by have := HL.out; simp only [List.length_append] at *; omega)
    generalize tx (nl ++ [91]) = X2 at hE2 hC
    have HC : Hid (∀ o, Calls Tryz.prog 81 #[.pointer (some ⟨P, 0, none⟩), .string X2, ve, .string ⟨#[93, 32, 61, 32]⟩] (w.alloc o) fun x w' => (∃ u, x = .returned u) ∧ Out w' P (l ++ (nl ++ [91] ++ (shw se ++ [93, 32, 61, 32]))) ∧ Wr P (w.alloc o) w') := hC
    clear hC
    go_enter Tryz.func63, Tryz.ntmps63
    go_wp2_with fail
    refine (HC.out _).mono ?_
    rintro x w1 ⟨⟨u, rfl⟩, hO1, hW1⟩
    have HO1 : Hid (Out w1 P (l ++ (nl ++ [91] ++ (shw se ++ [93, 32, 61, 32])))) := hO1
    have HW1 : Hid (Wr P w w1) := (out_box HO.out _).2.1.trans hW1
    have c3 : w1.cell? ⟨w.heap.size, 3, none⟩ = some vf := (out_box HO.out _).2.2.cell hW1 (by simp)
    clear hO1 hW1
    go_wp2_with fail
    refine (HF3.out [] [59, 10] (l ++ (nl ++ [91] ++ (shw se ++ [93, 32, 61, 32]))) w1 (HB.out.trans ((HW1.out.toBelow HO.out).mono h0)) HO1.out (by have := HL.out; simp only [List.length_append] at *; omega)).mono ?_
    rintro x w2 ⟨⟨u2, rfl⟩, hO2, hW2⟩
    have HO2 : Hid (Out w2 P (l ++ (nl ++ [91] ++ (shw se ++ [93, 32, 61, 32])) ++ ([] ++ (shw sf ++ [59, 10])))) := hO2
    have HW2 : Hid (Wr P w w2) := HW1.out.trans hW2
    clear hO2 hW2
    go_wp2_with fail
    go_end0
    refine ⟨⟨_, rfl⟩, ?_, HW2.out⟩
    rw [HQ.out]
    simpa only [List.append_assoc] using HO2.out
  · -- a choice
    by_cases hel : el = 0
    · subst hel
      have HQ : Hid (T = [105, 102, 32, 40] ++ (shw se ++ [41, 32, 123, 10]) ++ ta ++ [125, 10]) := HTx.out.symm.trans (by simp [stmtT, tx])
      rw [HQ.out] at HL
      have HC : Hid (∀ o, Calls Tryz.prog 81 #[.pointer (some ⟨P, 0, none⟩), .string ⟨#[105, 102, 32, 40]⟩, ve, .string ⟨#[41, 32, 123, 10]⟩] (w.alloc o) fun x w' => (∃ u, x = .returned u) ∧ Out w' P (l ++ ([105, 102, 32, 40] ++ (shw se ++ [41, 32, 123, 10]))) ∧ Wr P (w.alloc o) w') := fun o => line_box HE.out HB.out HO.out o [105, 102, 32, 40] [41, 32, 123, 10] (by have := HL.out; simp only [List.length_append] at *; omega)
      go_enter Tryz.func63, Tryz.ntmps63
      go_wp2_with fail
      refine (HC.out _).mono ?_
      rintro x w1 ⟨⟨u, rfl⟩, hO1, hW1⟩
      have HO1 : Hid (Out w1 P (l ++ ([105, 102, 32, 40] ++ (shw se ++ [41, 32, 123, 10])))) := hO1
      have HW1 : Hid (Wr P w w1) := (out_box HO.out _).2.1.trans hW1
      have HFar : Hid (Far P w1 w.heap.size) := (out_box HO.out _).2.2.wr hW1
      have HC5 : Hid (w1.cell? ⟨w.heap.size, 5, none⟩ = some (.int .i64 0)) := (out_box HO.out _).2.2.cell hW1 (by simp)
      clear hO1 hW1
      generalize [105, 102, 32, 40] ++ (shw se ++ [41, 32, 123, 10]) = t1 at HO1 HQ HL
      go_wp2_with fail
      refine (HA.out (l ++ t1) w1 (HB.out.trans ((HW1.out.toBelow HO.out).mono h0)) HO1.out (by have := HL.out; simp only [List.length_append] at *; omega)).mono ?_
      rintro x w2 ⟨⟨u2, rfl⟩, hO2, hW2⟩
      have HO2 : Hid (Out w2 P (l ++ t1 ++ ta)) := hO2
      have HW2 : Hid (Wr P w w2) := HW1.out.trans hW2
      have c5 : w2.cell? ⟨w.heap.size, 5, none⟩ = some (.int .i64 0) := HFar.out.cell hW2 HC5.out
      clear hO2 hW2
      go_wp2_with fail
      refine (put1 P (l ++ t1 ++ ta) [125, 10] w2 HO2.out (by have := HL.out; simp only [List.length_append] at *; omega)).mono ?_
      rintro x w9 ⟨⟨u9, rfl⟩, hO9, hW9⟩
      have HO9 : Hid (Out w9 P (l ++ t1 ++ ta ++ [125, 10])) := hO9
      have HW9 : Hid (Wr P w w9) := HW2.out.trans hW9
      clear hO9 hW9 c5
      go_wp2_with fail
      go_end0
      refine ⟨⟨_, rfl⟩, ?_, HW9.out⟩
      rw [HQ.out]
      simpa only [List.append_assoc, List.append_nil, List.nil_append] using HO9.out
    · have HQ : Hid (T = [105, 102, 32, 40] ++ (shw se ++ [41, 32, 123, 10]) ++ ta ++ ([125, 32, 101, 108, 115, 101, 32, 123, 10] ++ tb) ++ [125, 10]) := HTx.out.symm.trans (by simp [stmtT, tx, hel])
      rw [HQ.out] at HL
      have HC : Hid (∀ o, Calls Tryz.prog 81 #[.pointer (some ⟨P, 0, none⟩), .string ⟨#[105, 102, 32, 40]⟩, ve, .string ⟨#[41, 32, 123, 10]⟩] (w.alloc o) fun x w' => (∃ u, x = .returned u) ∧ Out w' P (l ++ ([105, 102, 32, 40] ++ (shw se ++ [41, 32, 123, 10]))) ∧ Wr P (w.alloc o) w') := fun o => line_box HE.out HB.out HO.out o [105, 102, 32, 40] [41, 32, 123, 10] (by have := HL.out; simp only [List.length_append] at *; omega)
      go_enter Tryz.func63, Tryz.ntmps63
      go_wp2_with fail
      refine (HC.out _).mono ?_
      rintro x w1 ⟨⟨u, rfl⟩, hO1, hW1⟩
      have HO1 : Hid (Out w1 P (l ++ ([105, 102, 32, 40] ++ (shw se ++ [41, 32, 123, 10])))) := hO1
      have HW1 : Hid (Wr P w w1) := (out_box HO.out _).2.1.trans hW1
      have HFar : Hid (Far P w1 w.heap.size) := (out_box HO.out _).2.2.wr hW1
      have HC5 : Hid (w1.cell? ⟨w.heap.size, 5, none⟩ = some (.int .i64 el)) := (out_box HO.out _).2.2.cell hW1 (by simp)
      clear hO1 hW1
      generalize [105, 102, 32, 40] ++ (shw se ++ [41, 32, 123, 10]) = t1 at HO1 HQ HL
      go_wp2_with fail
      refine (HA.out (l ++ t1) w1 (HB.out.trans ((HW1.out.toBelow HO.out).mono h0)) HO1.out (by have := HL.out; simp only [List.length_append] at *; omega)).mono ?_
      rintro x w2 ⟨⟨u2, rfl⟩, hO2, hW2⟩
      have HO2 : Hid (Out w2 P (l ++ t1 ++ ta)) := hO2
      have HW2 : Hid (Wr P w w2) := HW1.out.trans hW2
      have c5 : w2.cell? ⟨w.heap.size, 5, none⟩ = some (.int .i64 el) := HFar.out.cell hW2 HC5.out
      clear hO2 hW2
      go_wp2_with fail
      refine (put1 P (l ++ t1 ++ ta) [125, 32, 101, 108, 115, 101, 32, 123, 10] w2 HO2.out (by have := HL.out; simp only [List.length_append] at *; omega)).mono ?_
      rintro x w3 ⟨⟨u3, rfl⟩, hO3, hW3⟩
      have HO3 : Hid (Out w3 P (l ++ t1 ++ ta ++ [125, 32, 101, 108, 115, 101, 32, 123, 10])) := hO3
      have HW3 : Hid (Wr P w w3) := HW2.out.trans hW3
      clear hO3 hW3 c5
      go_wp2_with fail
      refine (HBl.out (l ++ t1 ++ ta ++ [125, 32, 101, 108, 115, 101, 32, 123, 10]) w3 (HB.out.trans ((HW3.out.toBelow HO.out).mono h0)) HO3.out (by have := HL.out; simp only [List.length_append] at *; omega)).mono ?_
      rintro x w4 ⟨⟨u4, rfl⟩, hO4, hW4⟩
      have HO4 : Hid (Out w4 P (l ++ t1 ++ ta ++ [125, 32, 101, 108, 115, 101, 32, 123, 10] ++ tb)) := hO4
      have HW4 : Hid (Wr P w w4) := HW3.out.trans hW4
      clear hO4 hW4
      go_wp2_with fail
      refine (put1 P (l ++ t1 ++ ta ++ [125, 32, 101, 108, 115, 101, 32, 123, 10] ++ tb) [125, 10] w4 HO4.out (by have := HL.out; simp only [List.length_append] at *; omega)).mono ?_
      rintro x w9 ⟨⟨u9, rfl⟩, hO9, hW9⟩
      have HO9 : Hid (Out w9 P (l ++ t1 ++ ta ++ [125, 32, 101, 108, 115, 101, 32, 123, 10] ++ tb ++ [125, 10])) := hO9
      have HW9 : Hid (Wr P w w9) := HW4.out.trans hW9
      clear hO9 hW9 
      go_wp2_with fail
      go_end0
      refine ⟨⟨_, rfl⟩, ?_, HW9.out⟩
      rw [HQ.out]
      simpa only [List.append_assoc, List.append_nil, List.nil_append] using HO9.out
  · -- a loop
    have HQ : Hid (T = [119, 104, 105, 108, 101, 32, 40] ++ (shw se ++ [41, 32, 123, 10]) ++ ta ++ [125, 10]) := HTx.out.symm.trans (by simp [stmtT, tx])
    rw [HQ.out] at HL
    have HC : Hid (∀ o, Calls Tryz.prog 81 #[.pointer (some ⟨P, 0, none⟩), .string ⟨#[119, 104, 105, 108, 101, 32, 40]⟩, ve, .string ⟨#[41, 32, 123, 10]⟩] (w.alloc o) fun x w' => (∃ u, x = .returned u) ∧ Out w' P (l ++ ([119, 104, 105, 108, 101, 32, 40] ++ (shw se ++ [41, 32, 123, 10]))) ∧ Wr P (w.alloc o) w') := fun o => line_box HE.out HB.out HO.out o [119, 104, 105, 108, 101, 32, 40] [41, 32, 123, 10] (by have := HL.out; simp only [List.length_append] at *; omega)
    go_enter Tryz.func63, Tryz.ntmps63
    go_wp2_with fail
    refine (HC.out _).mono ?_
    rintro x w1 ⟨⟨u, rfl⟩, hO1, hW1⟩
    have HO1 : Hid (Out w1 P (l ++ ([119, 104, 105, 108, 101, 32, 40] ++ (shw se ++ [41, 32, 123, 10])))) := hO1
    have HW1 : Hid (Wr P w w1) := (out_box HO.out _).2.1.trans hW1
    have HFar : Hid (Far P w1 w.heap.size) := (out_box HO.out _).2.2.wr hW1
    have HC5 : Hid (w1.cell? ⟨w.heap.size, 5, none⟩ = some (.int .i64 el)) := (out_box HO.out _).2.2.cell hW1 (by simp)
    clear hO1 hW1
    generalize [119, 104, 105, 108, 101, 32, 40] ++ (shw se ++ [41, 32, 123, 10]) = t1 at HO1 HQ HL
    go_wp2_with fail
    refine (HA.out (l ++ t1) w1 (HB.out.trans ((HW1.out.toBelow HO.out).mono h0)) HO1.out (by have := HL.out; simp only [List.length_append] at *; omega)).mono ?_
    rintro x w2 ⟨⟨u2, rfl⟩, hO2, hW2⟩
    have HO2 : Hid (Out w2 P (l ++ t1 ++ ta)) := hO2
    have HW2 : Hid (Wr P w w2) := HW1.out.trans hW2
    have c5 : w2.cell? ⟨w.heap.size, 5, none⟩ = some (.int .i64 el) := HFar.out.cell hW2 HC5.out
    clear hO2 hW2
    go_wp2_with fail
    refine (put1 P (l ++ t1 ++ ta) [125, 10] w2 HO2.out (by have := HL.out; simp only [List.length_append] at *; omega)).mono ?_
    rintro x w9 ⟨⟨u9, rfl⟩, hO9, hW9⟩
    have HO9 : Hid (Out w9 P (l ++ t1 ++ ta ++ [125, 10])) := hO9
    have HW9 : Hid (Wr P w w9) := HW2.out.trans hW9
    clear hO9 hW9 c5
    go_wp2_with fail
    go_end0
    refine ⟨⟨_, rfl⟩, ?_, HW9.out⟩
    rw [HQ.out]
    simpa only [List.append_assoc, List.append_nil, List.nil_append] using HO9.out
  · -- a return
    have HQ : Hid (T = [114, 101, 116, 117, 114, 110, 32] ++ (shw se ++ [59, 10])) := HTx.out.symm.trans (by simp [stmtT, tx])
    rw [HQ.out] at HL
    have HC : Hid (∀ o, Calls Tryz.prog 81 #[.pointer (some ⟨P, 0, none⟩), .string ⟨#[114, 101, 116, 117, 114, 110, 32]⟩, ve, .string ⟨#[59, 10]⟩] (w.alloc o) fun x w' => (∃ u, x = .returned u) ∧ Out w' P (l ++ ([114, 101, 116, 117, 114, 110, 32] ++ (shw se ++ [59, 10]))) ∧ Wr P (w.alloc o) w') := fun o => line_box HE.out HB.out HO.out o [114, 101, 116, 117, 114, 110, 32] [59, 10] (by have := HL.out; simp only [List.length_append] at *; omega)
    go_enter Tryz.func63, Tryz.ntmps63
    go_wp2_with fail
    refine (HC.out _).mono ?_
    rintro x w1 ⟨⟨u, rfl⟩, hO1, hW1⟩
    have HO1 : Hid (Out w1 P (l ++ ([114, 101, 116, 117, 114, 110, 32] ++ (shw se ++ [59, 10])))) := hO1
    have HW1 : Hid (Wr P w w1) := (out_box HO.out _).2.1.trans hW1
    clear hO1 hW1
    go_wp2_with fail
    go_end0
    refine ⟨⟨_, rfl⟩, ?_, HW1.out⟩
    rw [HQ.out]
    exact HO1.out
  · -- an output
    have HQ : Hid (T = [111, 117, 116, 40] ++ (shw se ++ [41, 59, 10])) := HTx.out.symm.trans (by simp [stmtT, tx])
    rw [HQ.out] at HL
    have HC : Hid (∀ o, Calls Tryz.prog 81 #[.pointer (some ⟨P, 0, none⟩), .string ⟨#[111, 117, 116, 40]⟩, ve, .string ⟨#[41, 59, 10]⟩] (w.alloc o) fun x w' => (∃ u, x = .returned u) ∧ Out w' P (l ++ ([111, 117, 116, 40] ++ (shw se ++ [41, 59, 10]))) ∧ Wr P (w.alloc o) w') := fun o => line_box HE.out HB.out HO.out o [111, 117, 116, 40] [41, 59, 10] (by have := HL.out; simp only [List.length_append] at *; omega)
    go_enter Tryz.func63, Tryz.ntmps63
    go_wp2_with fail
    refine (HC.out _).mono ?_
    rintro x w1 ⟨⟨u, rfl⟩, hO1, hW1⟩
    have HO1 : Hid (Out w1 P (l ++ ([111, 117, 116, 40] ++ (shw se ++ [41, 59, 10])))) := hO1
    have HW1 : Hid (Wr P w w1) := (out_box HO.out _).2.1.trans hW1
    clear hO1 hW1
    go_wp2_with fail
    go_end0
    refine ⟨⟨_, rfl⟩, ?_, HW1.out⟩
    rw [HQ.out]
    exact HO1.out
  · -- a call
    have HQ : Hid (T = [] ++ (shw se ++ [59, 10])) := HTx.out.symm.trans (by simp [stmtT, tx])
    rw [HQ.out] at HL
    have HC : Hid (∀ o, Calls Tryz.prog 81 #[.pointer (some ⟨P, 0, none⟩), .string ⟨#[]⟩, ve, .string ⟨#[59, 10]⟩] (w.alloc o) fun x w' => (∃ u, x = .returned u) ∧ Out w' P (l ++ ([] ++ (shw se ++ [59, 10]))) ∧ Wr P (w.alloc o) w') := fun o => line_box HE.out HB.out HO.out o [] [59, 10] (by have := HL.out; simp only [List.length_append] at *; omega)
    go_enter Tryz.func63, Tryz.ntmps63
    go_wp2_with fail
    refine (HC.out _).mono ?_
    rintro x w1 ⟨⟨u, rfl⟩, hO1, hW1⟩
    have HO1 : Hid (Out w1 P (l ++ ([] ++ (shw se ++ [59, 10])))) := hO1
    have HW1 : Hid (Wr P w w1) := (out_box HO.out _).2.1.trans hW1
    clear hO1 hW1
    go_wp2_with fail
    go_end0
    refine ⟨⟨_, rfl⟩, ?_, HW1.out⟩
    rw [HQ.out]
    exact HO1.out

end Go.Proofs.YtjnnepkoeloekaaGreatDoor
