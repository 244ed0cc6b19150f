import Derived.Test.YtdkpinbkmjoicaaIa
import Derived.Test.YtdkpinbkmjoicaaIb
import Derived.Test.YtdkpinbkmjoicaaIc
import Derived.Test.YtdkpinbkmjoicaaId
import Derived.Test.YtdkpinbkmjoicaaEn
namespace Go.Proofs.Ytdkpinbkmjoicaa
open Go.RowKit
set_option linter.unusedVariables false
set_option linter.unusedSimpArgs false
theorem ieNo (op rd s1 s2 im : Int) (w : World) (h : op < 1 ∨ 34 < op) :
    Calls Try.prog 6 #[.agg #[.int .i64 op, .int .i64 rd, .int .i64 s1, .int .i64 s2, .int .i64 im]] w fun e w' => e = .returned (.int .u32 0) ∧ Below w.heap.size w w' := by
  rcases h with h | h
  all_goals
    go_enter Try.func6, Try.ntmps6
    go_wp2
    go_ret
    exact ⟨rfl, (Below.refl _ _).alloc (Nat.le_refl _) _⟩
/-- What both programs say of an instruction: R is its word (0 if there is none), v whether it is valid. -/
def EncIs (op rd s1 s2 im R : Int) (v : Bool) : Prop :=
  (∀ w : World, Calls Try.prog 6 #[.agg #[.int .i64 op, .int .i64 rd, .int .i64 s1, .int .i64 s2, .int .i64 im]] w fun e w' => e = .returned (.int .u32 R) ∧ Below w.heap.size w w') ∧
  (∀ w : World, Calls Try.prog 7 #[.agg #[.int .i64 op, .int .i64 rd, .int .i64 s1, .int .i64 s2, .int .i64 im]] w fun e w' => e = .returned (.int .u32 R) ∧ Below w.heap.size w w') ∧
  (∀ w : World, Calls Try.prog 9 #[.agg #[.int .i64 op, .int .i64 rd, .int .i64 s1, .int .i64 s2, .int .i64 im]] w fun e w' => e = .returned (.bool v) ∧ Below w.heap.size w w') ∧
  (R != 0) = v ∧ 0 ≤ R ∧ R ≤ 4294967295
theorem is_no (op rd s1 s2 im : Int) (h : op < 1 ∨ 34 < op) : EncIs op rd s1 s2 im 0 false :=
  ⟨fun w => ieNo op rd s1 s2 im w h, fun w => encNo op rd s1 s2 im w (fun W => spNo op rd s1 s2 im W h), fun w => spNo op rd s1 s2 im w h, rfl, by omega, by omega⟩
theorem isU (op rd s1 s2 im : Int) (h : op = 1) : ∃ R v, EncIs op rd s1 s2 im R v := by
  have hp := oc_pos op (by omega)
  have hrt := rtU (oc op) rd s1 s2 im _ (oc_bd op) rfl
  by_cases hv : vU rd s1 s2 im = true
  · refine ⟨oc op + rd % 32 * 128 + im % 1048576 * 4096, true, fun w => ieU op rd s1 s2 im w h _ (fun _ => rfl) (fun hn => absurd hv hn), fun w => encU op rd s1 s2 im w h hv, fun w => (spU op rd s1 s2 im w h).mono fun e w' x => ⟨by rw [x.1, hv], x.2⟩, ?_, hrt.1.1, hrt.1.2⟩
    have o2 := f3_bd op
    have o3 := f7_bd op
    simp only [bne_iff_ne, ne_eq]
    omega
  · have hf : vU rd s1 s2 im = false := by simpa using hv
    exact ⟨0, false, fun w => ieU op rd s1 s2 im w h _ (fun hn => absurd hn hv) (fun _ => rfl), fun w => encNo op rd s1 s2 im w (fun W => (spU op rd s1 s2 im W h).mono fun e w' x => ⟨by rw [x.1, hf], x.2⟩), fun w => (spU op rd s1 s2 im w h).mono fun e w' x => ⟨by rw [x.1, hf], x.2⟩, rfl, by omega, by omega⟩
theorem isJ (op rd s1 s2 im : Int) (h : op = 2) : ∃ R v, EncIs op rd s1 s2 im R v := by
  have hp := oc_pos op (by omega)
  have hrt := rtJ (oc op) rd s1 s2 im _ (oc_bd op) rfl
  by_cases hv : vJ rd s1 s2 im = true
  · refine ⟨oc op + rd % 32 * 128 + im / 4096 % 256 * 4096 + im / 2048 % 2 * 1048576 + im / 2 % 1024 * 2097152 + im / 1048576 % 2 * 2147483648, true, fun w => ieJ op rd s1 s2 im w h _ (fun _ => rfl) (fun hn => absurd hv hn), fun w => encJ op rd s1 s2 im w h hv, fun w => (spJ op rd s1 s2 im w h).mono fun e w' x => ⟨by rw [x.1, hv], x.2⟩, ?_, hrt.1.1, hrt.1.2⟩
    have o2 := f3_bd op
    have o3 := f7_bd op
    simp only [bne_iff_ne, ne_eq]
    omega
  · have hf : vJ rd s1 s2 im = false := by simpa using hv
    exact ⟨0, false, fun w => ieJ op rd s1 s2 im w h _ (fun hn => absurd hn hv) (fun _ => rfl), fun w => encNo op rd s1 s2 im w (fun W => (spJ op rd s1 s2 im W h).mono fun e w' x => ⟨by rw [x.1, hf], x.2⟩), fun w => (spJ op rd s1 s2 im w h).mono fun e w' x => ⟨by rw [x.1, hf], x.2⟩, rfl, by omega, by omega⟩
theorem isB (op rd s1 s2 im : Int) (h : 4 ≤ op ∧ op ≤ 9) : ∃ R v, EncIs op rd s1 s2 im R v := by
  have hp := oc_pos op (by omega)
  have hrt := rtB (oc op) (f3 op) rd s1 s2 im _ (oc_bd op) (f3_bd op) rfl
  by_cases hv : vB rd s1 s2 im = true
  · refine ⟨oc op + im / 2048 % 2 * 128 + im / 2 % 16 * 256 + f3 op * 4096 + s1 % 32 * 32768 + s2 % 32 * 1048576 + im / 32 % 64 * 33554432 + im / 4096 % 2 * 2147483648, true, fun w => ieB op rd s1 s2 im w h _ (fun _ => rfl) (fun hn => absurd hv hn), fun w => encB op rd s1 s2 im w h hv, fun w => (spB op rd s1 s2 im w h).mono fun e w' x => ⟨by rw [x.1, hv], x.2⟩, ?_, hrt.1.1, hrt.1.2⟩
    have o2 := f3_bd op
    have o3 := f7_bd op
    simp only [bne_iff_ne, ne_eq]
    omega
  · have hf : vB rd s1 s2 im = false := by simpa using hv
    exact ⟨0, false, fun w => ieB op rd s1 s2 im w h _ (fun hn => absurd hn hv) (fun _ => rfl), fun w => encNo op rd s1 s2 im w (fun W => (spB op rd s1 s2 im W h).mono fun e w' x => ⟨by rw [x.1, hf], x.2⟩), fun w => (spB op rd s1 s2 im w h).mono fun e w' x => ⟨by rw [x.1, hf], x.2⟩, rfl, by omega, by omega⟩
theorem isS (op rd s1 s2 im : Int) (h : op = 11) : ∃ R v, EncIs op rd s1 s2 im R v := by
  have hp := oc_pos op (by omega)
  have hrt := rtS (oc op) (f3 op) rd s1 s2 im _ (oc_bd op) (f3_bd op) rfl
  by_cases hv : vS rd s1 s2 im = true
  · refine ⟨oc op + im % 32 * 128 + f3 op * 4096 + s1 % 32 * 32768 + s2 % 32 * 1048576 + im / 32 % 128 * 33554432, true, fun w => ieS op rd s1 s2 im w h _ (fun _ => rfl) (fun hn => absurd hv hn), fun w => encS op rd s1 s2 im w h hv, fun w => (spS op rd s1 s2 im w h).mono fun e w' x => ⟨by rw [x.1, hv], x.2⟩, ?_, hrt.1.1, hrt.1.2⟩
    have o2 := f3_bd op
    have o3 := f7_bd op
    simp only [bne_iff_ne, ne_eq]
    omega
  · have hf : vS rd s1 s2 im = false := by simpa using hv
    exact ⟨0, false, fun w => ieS op rd s1 s2 im w h _ (fun hn => absurd hn hv) (fun _ => rfl), fun w => encNo op rd s1 s2 im w (fun W => (spS op rd s1 s2 im W h).mono fun e w' x => ⟨by rw [x.1, hf], x.2⟩), fun w => (spS op rd s1 s2 im w h).mono fun e w' x => ⟨by rw [x.1, hf], x.2⟩, rfl, by omega, by omega⟩
theorem isH (op rd s1 s2 im : Int) (h : 18 ≤ op ∧ op ≤ 20) : ∃ R v, EncIs op rd s1 s2 im R v := by
  have hp := oc_pos op (by omega)
  have hrt := rtH (oc op) (f3 op) (f7 op) rd s1 s2 im _ (oc_bd op) (f3_bd op) (f7_bd op) rfl
  by_cases hv : vH rd s1 s2 im = true
  · refine ⟨oc op + rd % 32 * 128 + f3 op * 4096 + s1 % 32 * 32768 + im % 32 * 1048576 + f7 op * 33554432, true, fun w => ieH op rd s1 s2 im w h _ (fun _ => rfl) (fun hn => absurd hv hn), fun w => encH op rd s1 s2 im w h hv, fun w => (spH op rd s1 s2 im w h).mono fun e w' x => ⟨by rw [x.1, hv], x.2⟩, ?_, hrt.1.1, hrt.1.2⟩
    have o2 := f3_bd op
    have o3 := f7_bd op
    simp only [bne_iff_ne, ne_eq]
    omega
  · have hf : vH rd s1 s2 im = false := by simpa using hv
    exact ⟨0, false, fun w => ieH op rd s1 s2 im w h _ (fun hn => absurd hn hv) (fun _ => rfl), fun w => encNo op rd s1 s2 im w (fun W => (spH op rd s1 s2 im W h).mono fun e w' x => ⟨by rw [x.1, hf], x.2⟩), fun w => (spH op rd s1 s2 im w h).mono fun e w' x => ⟨by rw [x.1, hf], x.2⟩, rfl, by omega, by omega⟩
theorem isR (op rd s1 s2 im : Int) (h : 21 ≤ op ∧ op ≤ 33) : ∃ R v, EncIs op rd s1 s2 im R v := by
  have hp := oc_pos op (by omega)
  have hrt := rtR (oc op) (f3 op) (f7 op) rd s1 s2 im _ (oc_bd op) (f3_bd op) (f7_bd op) rfl
  by_cases hv : vR rd s1 s2 im = true
  · refine ⟨oc op + rd % 32 * 128 + f3 op * 4096 + s1 % 32 * 32768 + s2 % 32 * 1048576 + f7 op * 33554432, true, fun w => ieR op rd s1 s2 im w h _ (fun _ => rfl) (fun hn => absurd hv hn), fun w => encR op rd s1 s2 im w h hv, fun w => (spR op rd s1 s2 im w h).mono fun e w' x => ⟨by rw [x.1, hv], x.2⟩, ?_, hrt.1.1, hrt.1.2⟩
    have o2 := f3_bd op
    have o3 := f7_bd op
    simp only [bne_iff_ne, ne_eq]
    omega
  · have hf : vR rd s1 s2 im = false := by simpa using hv
    exact ⟨0, false, fun w => ieR op rd s1 s2 im w h _ (fun hn => absurd hn hv) (fun _ => rfl), fun w => encNo op rd s1 s2 im w (fun W => (spR op rd s1 s2 im W h).mono fun e w' x => ⟨by rw [x.1, hf], x.2⟩), fun w => (spR op rd s1 s2 im w h).mono fun e w' x => ⟨by rw [x.1, hf], x.2⟩, rfl, by omega, by omega⟩
theorem isE (op rd s1 s2 im : Int) (h : op = 34) : ∃ R v, EncIs op rd s1 s2 im R v := by
  have hp := oc_pos op (by omega)
  have hrt := rtE (oc op) rd s1 s2 im _ (oc_bd op) rfl
  by_cases hv : vE rd s1 s2 im = true
  · refine ⟨oc op, true, fun w => ieE op rd s1 s2 im w h _ (fun _ => rfl) (fun hn => absurd hv hn), fun w => encE op rd s1 s2 im w h hv, fun w => (spE op rd s1 s2 im w h).mono fun e w' x => ⟨by rw [x.1, hv], x.2⟩, ?_, hrt.1.1, hrt.1.2⟩
    have o2 := f3_bd op
    have o3 := f7_bd op
    simp only [bne_iff_ne, ne_eq]
    omega
  · have hf : vE rd s1 s2 im = false := by simpa using hv
    exact ⟨0, false, fun w => ieE op rd s1 s2 im w h _ (fun hn => absurd hn hv) (fun _ => rfl), fun w => encNo op rd s1 s2 im w (fun W => (spE op rd s1 s2 im W h).mono fun e w' x => ⟨by rw [x.1, hf], x.2⟩), fun w => (spE op rd s1 s2 im w h).mono fun e w' x => ⟨by rw [x.1, hf], x.2⟩, rfl, by omega, by omega⟩
theorem isI (op rd s1 s2 im : Int) (h : op = 3 ∨ op = 10 ∨ (12 ≤ op ∧ op ≤ 17)) : ∃ R v, EncIs op rd s1 s2 im R v := by
  have hp := oc_pos op (by omega)
  have hrt := rtI (oc op) (f3 op) rd s1 s2 im _ (oc_bd op) (f3_bd op) rfl
  by_cases hv : vI rd s1 s2 im = true
  · refine ⟨oc op + rd % 32 * 128 + f3 op * 4096 + s1 % 32 * 32768 + im % 4096 * 1048576, true, fun w => ieI op rd s1 s2 im w h _ (fun _ => rfl) (fun hn => absurd hv hn), fun w => encI op rd s1 s2 im w h hv, fun w => (spI op rd s1 s2 im w h).mono fun e w' x => ⟨by rw [x.1, hv], x.2⟩, ?_, hrt.1.1, hrt.1.2⟩
    have o2 := f3_bd op
    have o3 := f7_bd op
    simp only [bne_iff_ne, ne_eq]
    omega
  · have hf : vI rd s1 s2 im = false := by simpa using hv
    exact ⟨0, false, fun w => ieI op rd s1 s2 im w h _ (fun hn => absurd hn hv) (fun _ => rfl), fun w => encNo op rd s1 s2 im w (fun W => (spI op rd s1 s2 im W h).mono fun e w' x => ⟨by rw [x.1, hf], x.2⟩), fun w => (spI op rd s1 s2 im w h).mono fun e w' x => ⟨by rw [x.1, hf], x.2⟩, rfl, by omega, by omega⟩
theorem is_any (op rd s1 s2 im : Int) : ∃ R v, EncIs op rd s1 s2 im R v := by
  by_cases h : op < 1 ∨ 34 < op
  · exact ⟨0, false, is_no op rd s1 s2 im h⟩
  · by_cases c1 : op = 1
    · exact isU op rd s1 s2 im c1
    by_cases c2 : op = 2
    · exact isJ op rd s1 s2 im c2
    by_cases c3 : 4 ≤ op ∧ op ≤ 9
    · exact isB op rd s1 s2 im c3
    by_cases c4 : op = 11
    · exact isS op rd s1 s2 im c4
    by_cases c5 : 18 ≤ op ∧ op ≤ 20
    · exact isH op rd s1 s2 im c5
    by_cases c6 : 21 ≤ op ∧ op ≤ 33
    · exact isR op rd s1 s2 im c6
    by_cases c7 : op = 34
    · exact isE op rd s1 s2 im c7
    exact isI op rd s1 s2 im (by omega)
theorem vi_impl (op rd s1 s2 im R : Int) (v : Bool) (w : World) (h : EncIs op rd s1 s2 im R v) :
    Calls Try.prog 8 #[.agg #[.int .i64 op, .int .i64 rd, .int .i64 s1, .int .i64 s2, .int .i64 im]] w fun e w' => e = .returned (.bool v) ∧ Below w.heap.size w w' := by
  have H : Hid _ := h
  have HV : Hid _ := h.2.2.2.1
  clear h
  go_enter Try.func8, Try.ntmps8
  go_wp2_with fail
  refine (H.out.1 _).mono ?_
  rintro e w1 ⟨rfl, hb⟩
  go_wp2
  go_ret
  exact ⟨ret_bool' HV.out, ((Below.refl _ _).alloc (Nat.le_refl _) _).trans (hb.mono (by simp))⟩
end Go.Proofs.Ytdkpinbkmjoicaa
