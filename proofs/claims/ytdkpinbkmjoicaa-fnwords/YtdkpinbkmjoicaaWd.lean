import Derived.Test.YtdkpinbkmjoicaaUq
namespace Go.Proofs.Ytdkpinbkmjoicaa
open Go.RowKit
set_option linter.unusedVariables false
set_option linter.unusedSimpArgs false
theorem two_any (op v : Int) (h : 1 ≤ op ∧ op ≤ 34) (hv : 0 ≤ v ∧ v ≤ 4294967295) : ∃ rd s1 s2 im R T cv fw fi, Try2 op v rd s1 s2 im R T cv fw fi := by
  by_cases c1 : op = 1
  · exact ⟨_, _, _, _, _, _, _, _, _, twoU op v c1 hv⟩
  by_cases c2 : op = 2
  · exact ⟨_, _, _, _, _, _, _, _, _, twoJ op v c2 hv⟩
  by_cases c3 : 4 ≤ op ∧ op ≤ 9
  · exact ⟨_, _, _, _, _, _, _, _, _, twoB op v c3 hv⟩
  by_cases c4 : op = 11
  · exact ⟨_, _, _, _, _, _, _, _, _, twoS op v c4 hv⟩
  by_cases c5 : 18 ≤ op ∧ op ≤ 20
  · exact ⟨_, _, _, _, _, _, _, _, _, twoH op v c5 hv⟩
  by_cases c6 : 21 ≤ op ∧ op ≤ 33
  · exact ⟨_, _, _, _, _, _, _, _, _, twoR op v c6 hv⟩
  by_cases c7 : op = 34
  · exact ⟨_, _, _, _, _, _, _, _, _, twoE op v c7 hv⟩
  exact ⟨_, _, _, _, _, _, _, _, _, twoI op v (by omega) hv⟩
/-- A word that an op makes is decoded as that op. -/
theorem dec_hit (K : Nat) (v a b c d : Int) (T : TypeId) (cv : Value) (fw fi : Nat) (hK : 1 ≤ K ∧ K ≤ 34) (hv : 0 ≤ v ∧ v ≤ 4294967295) (t : Try2 K v a b c d v T cv fw fi) :
    (∀ w : World, Calls Try.prog 12 #[.int .u32 v] w fun e w' => e = .returned (.agg #[.bool true, .int .i64 K, .int .i64 a, .int .i64 b, .int .i64 c, .int .i64 d]) ∧ Below w.heap.size w w') ∧
    (∀ w : World, Calls Try.prog 10 #[.int .u32 v] w fun e w' => e = .returned (.agg #[.bool true, .int .i64 K, .int .i64 a, .int .i64 b, .int .i64 c, .int .i64 d]) ∧ Below w.heap.size w w') := by
  have hM : ∀ n : Nat, 1 ≤ n → n < K → ∃ rd s1 s2 im R T cv fw fi, (R == v) = false ∧ TryIs n v rd s1 s2 im R T cv fw fi := by
    intro n n1 n2
    obtain ⟨rd, s1, s2, im, R, T', cv', fw', fi', t'⟩ := two_any n v (by omega) hv
    refine ⟨rd, s1, s2, im, R, T', cv', fw', fi', ?_, t'.1⟩
    by_cases e : R = v
    · subst e
      have := sig_one n K (by omega) (by omega) R t'.2.1 t.2.1
      omega
    · simpa using e
  refine ⟨fun w => ?_, fun w => impl15 v true K a b c d (fun tb W htb hT => ?_) w⟩
  · refine specHit v hv K hK a b c d t.1.2.2.2.2.2.2.2.1 ⟨t.1.2.2.2.2.2.1, t.1.2.2.2.2.2.2.1⟩ (fun n n1 n2 => ?_) w
    obtain ⟨rd, s1, s2, im, R, T', cv', fw', fi', hR, t'⟩ := hM n n1 n2
    exact ⟨rd, s1, s2, im, R, hR, t'.2.2.2.2.2.1, t'.2.2.2.2.2.2.1⟩
  · refine implHit v hv tb K hK a b c d (look_of t.1) (fun n n1 n2 => ?_) W htb hT
    obtain ⟨rd, s1, s2, im, R, T', cv', fw', fi', hR, t'⟩ := hM n n1 n2
    exact ⟨rd, s1, s2, im, R, hR, look_of t'⟩
/-- Both programs on a word; and back. -/
theorem dec_word (v : Int) (hv : 0 ≤ v ∧ v ≤ 4294967295) : ∃ (o : Bool) (k a b c d : Int),
    (∀ w : World, Calls Try.prog 12 #[.int .u32 v] w fun e w' => e = .returned (.agg #[.bool o, .int .i64 k, .int .i64 a, .int .i64 b, .int .i64 c, .int .i64 d]) ∧ Below w.heap.size w w') ∧
    (∀ w : World, Calls Try.prog 10 #[.int .u32 v] w fun e w' => e = .returned (.agg #[.bool o, .int .i64 k, .int .i64 a, .int .i64 b, .int .i64 c, .int .i64 d]) ∧ Below w.heap.size w w') ∧
    (o = true → ∀ w : World, Calls Try.prog 6 #[.agg #[.int .i64 k, .int .i64 a, .int .i64 b, .int .i64 c, .int .i64 d]] w fun e w' => e = .returned (.int .u32 v) ∧ Below w.heap.size w w') := by
  by_cases h : ∃ K : Nat, (1 ≤ K ∧ K ≤ 34) ∧ ∃ a b c d T cv fw fi, Try2 K v a b c d v T cv fw fi
  · obtain ⟨K, hK, a, b, c, d, T, cv, fw, fi, t⟩ := h
    have hd := dec_hit K v a b c d T cv fw fi hK hv t
    exact ⟨true, K, a, b, c, d, hd.1, hd.2, fun _ => t.2.2⟩
  · have hM : ∀ n : Nat, 1 ≤ n → n < 35 → ∃ rd s1 s2 im R T cv fw fi, (R == v) = false ∧ TryIs n v rd s1 s2 im R T cv fw fi := by
      intro n n1 n2
      obtain ⟨rd, s1, s2, im, R, T', cv', fw', fi', t'⟩ := two_any n v (by omega) hv
      refine ⟨rd, s1, s2, im, R, T', cv', fw', fi', ?_, t'.1⟩
      by_cases e : R = v
      · subst e
        exact absurd ⟨n, by omega, rd, s1, s2, im, T', cv', fw', fi', t'⟩ h
      · simpa using e
    refine ⟨false, 0, 0, 0, 0, 0, fun w => ?_, fun w => impl15 v false 0 0 0 0 0 (fun tb W htb hT => ?_) w, fun x => by cases x⟩
    · refine specMiss v hv (fun n n1 n2 => ?_) w
      obtain ⟨rd, s1, s2, im, R, T', cv', fw', fi', hR, t'⟩ := hM n n1 n2
      exact ⟨rd, s1, s2, im, R, hR, t'.2.2.2.2.2.1, t'.2.2.2.2.2.2.1⟩
    · refine implMiss v hv tb (fun n n1 n2 => ?_) W htb hT
      obtain ⟨rd, s1, s2, im, R, T', cv', fw', fi', hR, t'⟩ := hM n n1 n2
      exact ⟨rd, s1, s2, im, R, hR, look_of t'⟩
/-- An instruction's word, and back. -/
def WordIs (op rd s1 s2 im R : Int) (v : Bool) : Prop := EncIs op rd s1 s2 im R v ∧
  (v = true → ∀ w : World, Calls Try.prog 10 #[.int .u32 R] w fun e w' => e = .returned (.agg #[.bool true, .int .i64 op, .int .i64 rd, .int .i64 s1, .int .i64 s2, .int .i64 im]) ∧ Below w.heap.size w w')
theorem wiU (op rd s1 s2 im : Int) (h : op = 1) : ∃ R v, WordIs op rd s1 s2 im R v := by
  have hp := oc_pos op (by omega)
  have hrt := rtU (oc op) rd s1 s2 im _ (oc_bd op) rfl
  by_cases hv : vU rd s1 s2 im = true
  · refine ⟨oc op + rd % 32 * 128 + im % 1048576 * 4096, true, ⟨fun w => ieU op rd s1 s2 im w h _ (fun _ => rfl) (fun hn => absurd hv hn), fun w => encU op rd s1 s2 im w h hv, fun w => (spU op rd s1 s2 im w h).mono fun e w' x => ⟨by rw [x.1, hv], x.2⟩, ?_, hrt.1.1, hrt.1.2⟩, fun _ => ?_⟩
    · have o2 := f3_bd op
      have o3 := f7_bd op
      simp only [bne_iff_ne, ne_eq]
      omega
    · obtain ⟨T, cv, fw, fi, t⟩ := hitU op rd s1 s2 im h hv
      obtain ⟨K, hK⟩ : ∃ K : Nat, op = K := ⟨op.toNat, by omega⟩
      subst hK
      exact (dec_hit K _ rd s1 s2 im T cv fw fi (by omega) hrt.1 t).2
  · have hf : vU rd s1 s2 im = false := by simpa using hv
    exact ⟨0, false, ⟨fun w => ieU op rd s1 s2 im w h _ (fun hn => absurd hn hv) (fun _ => rfl), fun w => encNo op rd s1 s2 im w (fun W => (spU op rd s1 s2 im W h).mono fun e w' x => ⟨by rw [x.1, hf], x.2⟩), fun w => (spU op rd s1 s2 im w h).mono fun e w' x => ⟨by rw [x.1, hf], x.2⟩, rfl, by omega, by omega⟩, fun x => by cases x⟩
theorem wiJ (op rd s1 s2 im : Int) (h : op = 2) : ∃ R v, WordIs op rd s1 s2 im R v := by
  have hp := oc_pos op (by omega)
  have hrt := rtJ (oc op) rd s1 s2 im _ (oc_bd op) rfl
  by_cases hv : vJ rd s1 s2 im = true
  · refine ⟨oc op + rd % 32 * 128 + im / 4096 % 256 * 4096 + im / 2048 % 2 * 1048576 + im / 2 % 1024 * 2097152 + im / 1048576 % 2 * 2147483648, true, ⟨fun w => ieJ op rd s1 s2 im w h _ (fun _ => rfl) (fun hn => absurd hv hn), fun w => encJ op rd s1 s2 im w h hv, fun w => (spJ op rd s1 s2 im w h).mono fun e w' x => ⟨by rw [x.1, hv], x.2⟩, ?_, hrt.1.1, hrt.1.2⟩, fun _ => ?_⟩
    · have o2 := f3_bd op
      have o3 := f7_bd op
      simp only [bne_iff_ne, ne_eq]
      omega
    · obtain ⟨T, cv, fw, fi, t⟩ := hitJ op rd s1 s2 im h hv
      obtain ⟨K, hK⟩ : ∃ K : Nat, op = K := ⟨op.toNat, by omega⟩
      subst hK
      exact (dec_hit K _ rd s1 s2 im T cv fw fi (by omega) hrt.1 t).2
  · have hf : vJ rd s1 s2 im = false := by simpa using hv
    exact ⟨0, false, ⟨fun w => ieJ op rd s1 s2 im w h _ (fun hn => absurd hn hv) (fun _ => rfl), fun w => encNo op rd s1 s2 im w (fun W => (spJ op rd s1 s2 im W h).mono fun e w' x => ⟨by rw [x.1, hf], x.2⟩), fun w => (spJ op rd s1 s2 im w h).mono fun e w' x => ⟨by rw [x.1, hf], x.2⟩, rfl, by omega, by omega⟩, fun x => by cases x⟩
theorem wiB (op rd s1 s2 im : Int) (h : 4 ≤ op ∧ op ≤ 9) : ∃ R v, WordIs op rd s1 s2 im R v := by
  have hp := oc_pos op (by omega)
  have hrt := rtB (oc op) (f3 op) rd s1 s2 im _ (oc_bd op) (f3_bd op) rfl
  by_cases hv : vB rd s1 s2 im = true
  · refine ⟨oc op + im / 2048 % 2 * 128 + im / 2 % 16 * 256 + f3 op * 4096 + s1 % 32 * 32768 + s2 % 32 * 1048576 + im / 32 % 64 * 33554432 + im / 4096 % 2 * 2147483648, true, ⟨fun w => ieB op rd s1 s2 im w h _ (fun _ => rfl) (fun hn => absurd hv hn), fun w => encB op rd s1 s2 im w h hv, fun w => (spB op rd s1 s2 im w h).mono fun e w' x => ⟨by rw [x.1, hv], x.2⟩, ?_, hrt.1.1, hrt.1.2⟩, fun _ => ?_⟩
    · have o2 := f3_bd op
      have o3 := f7_bd op
      simp only [bne_iff_ne, ne_eq]
      omega
    · obtain ⟨T, cv, fw, fi, t⟩ := hitB op rd s1 s2 im h hv
      obtain ⟨K, hK⟩ : ∃ K : Nat, op = K := ⟨op.toNat, by omega⟩
      subst hK
      exact (dec_hit K _ rd s1 s2 im T cv fw fi (by omega) hrt.1 t).2
  · have hf : vB rd s1 s2 im = false := by simpa using hv
    exact ⟨0, false, ⟨fun w => ieB op rd s1 s2 im w h _ (fun hn => absurd hn hv) (fun _ => rfl), fun w => encNo op rd s1 s2 im w (fun W => (spB op rd s1 s2 im W h).mono fun e w' x => ⟨by rw [x.1, hf], x.2⟩), fun w => (spB op rd s1 s2 im w h).mono fun e w' x => ⟨by rw [x.1, hf], x.2⟩, rfl, by omega, by omega⟩, fun x => by cases x⟩
theorem wiS (op rd s1 s2 im : Int) (h : op = 11) : ∃ R v, WordIs op rd s1 s2 im R v := by
  have hp := oc_pos op (by omega)
  have hrt := rtS (oc op) (f3 op) rd s1 s2 im _ (oc_bd op) (f3_bd op) rfl
  by_cases hv : vS rd s1 s2 im = true
  · refine ⟨oc op + im % 32 * 128 + f3 op * 4096 + s1 % 32 * 32768 + s2 % 32 * 1048576 + im / 32 % 128 * 33554432, true, ⟨fun w => ieS op rd s1 s2 im w h _ (fun _ => rfl) (fun hn => absurd hv hn), fun w => encS op rd s1 s2 im w h hv, fun w => (spS op rd s1 s2 im w h).mono fun e w' x => ⟨by rw [x.1, hv], x.2⟩, ?_, hrt.1.1, hrt.1.2⟩, fun _ => ?_⟩
    · have o2 := f3_bd op
      have o3 := f7_bd op
      simp only [bne_iff_ne, ne_eq]
      omega
    · obtain ⟨T, cv, fw, fi, t⟩ := hitS op rd s1 s2 im h hv
      obtain ⟨K, hK⟩ : ∃ K : Nat, op = K := ⟨op.toNat, by omega⟩
      subst hK
      exact (dec_hit K _ rd s1 s2 im T cv fw fi (by omega) hrt.1 t).2
  · have hf : vS rd s1 s2 im = false := by simpa using hv
    exact ⟨0, false, ⟨fun w => ieS op rd s1 s2 im w h _ (fun hn => absurd hn hv) (fun _ => rfl), fun w => encNo op rd s1 s2 im w (fun W => (spS op rd s1 s2 im W h).mono fun e w' x => ⟨by rw [x.1, hf], x.2⟩), fun w => (spS op rd s1 s2 im w h).mono fun e w' x => ⟨by rw [x.1, hf], x.2⟩, rfl, by omega, by omega⟩, fun x => by cases x⟩
theorem wiH (op rd s1 s2 im : Int) (h : 18 ≤ op ∧ op ≤ 20) : ∃ R v, WordIs op rd s1 s2 im R v := by
  have hp := oc_pos op (by omega)
  have hrt := rtH (oc op) (f3 op) (f7 op) rd s1 s2 im _ (oc_bd op) (f3_bd op) (f7_bd op) rfl
  by_cases hv : vH rd s1 s2 im = true
  · refine ⟨oc op + rd % 32 * 128 + f3 op * 4096 + s1 % 32 * 32768 + im % 32 * 1048576 + f7 op * 33554432, true, ⟨fun w => ieH op rd s1 s2 im w h _ (fun _ => rfl) (fun hn => absurd hv hn), fun w => encH op rd s1 s2 im w h hv, fun w => (spH op rd s1 s2 im w h).mono fun e w' x => ⟨by rw [x.1, hv], x.2⟩, ?_, hrt.1.1, hrt.1.2⟩, fun _ => ?_⟩
    · have o2 := f3_bd op
      have o3 := f7_bd op
      simp only [bne_iff_ne, ne_eq]
      omega
    · obtain ⟨T, cv, fw, fi, t⟩ := hitH op rd s1 s2 im h hv
      obtain ⟨K, hK⟩ : ∃ K : Nat, op = K := ⟨op.toNat, by omega⟩
      subst hK
      exact (dec_hit K _ rd s1 s2 im T cv fw fi (by omega) hrt.1 t).2
  · have hf : vH rd s1 s2 im = false := by simpa using hv
    exact ⟨0, false, ⟨fun w => ieH op rd s1 s2 im w h _ (fun hn => absurd hn hv) (fun _ => rfl), fun w => encNo op rd s1 s2 im w (fun W => (spH op rd s1 s2 im W h).mono fun e w' x => ⟨by rw [x.1, hf], x.2⟩), fun w => (spH op rd s1 s2 im w h).mono fun e w' x => ⟨by rw [x.1, hf], x.2⟩, rfl, by omega, by omega⟩, fun x => by cases x⟩
theorem wiR (op rd s1 s2 im : Int) (h : 21 ≤ op ∧ op ≤ 33) : ∃ R v, WordIs op rd s1 s2 im R v := by
  have hp := oc_pos op (by omega)
  have hrt := rtR (oc op) (f3 op) (f7 op) rd s1 s2 im _ (oc_bd op) (f3_bd op) (f7_bd op) rfl
  by_cases hv : vR rd s1 s2 im = true
  · refine ⟨oc op + rd % 32 * 128 + f3 op * 4096 + s1 % 32 * 32768 + s2 % 32 * 1048576 + f7 op * 33554432, true, ⟨fun w => ieR op rd s1 s2 im w h _ (fun _ => rfl) (fun hn => absurd hv hn), fun w => encR op rd s1 s2 im w h hv, fun w => (spR op rd s1 s2 im w h).mono fun e w' x => ⟨by rw [x.1, hv], x.2⟩, ?_, hrt.1.1, hrt.1.2⟩, fun _ => ?_⟩
    · have o2 := f3_bd op
      have o3 := f7_bd op
      simp only [bne_iff_ne, ne_eq]
      omega
    · obtain ⟨T, cv, fw, fi, t⟩ := hitR op rd s1 s2 im h hv
      obtain ⟨K, hK⟩ : ∃ K : Nat, op = K := ⟨op.toNat, by omega⟩
      subst hK
      exact (dec_hit K _ rd s1 s2 im T cv fw fi (by omega) hrt.1 t).2
  · have hf : vR rd s1 s2 im = false := by simpa using hv
    exact ⟨0, false, ⟨fun w => ieR op rd s1 s2 im w h _ (fun hn => absurd hn hv) (fun _ => rfl), fun w => encNo op rd s1 s2 im w (fun W => (spR op rd s1 s2 im W h).mono fun e w' x => ⟨by rw [x.1, hf], x.2⟩), fun w => (spR op rd s1 s2 im w h).mono fun e w' x => ⟨by rw [x.1, hf], x.2⟩, rfl, by omega, by omega⟩, fun x => by cases x⟩
theorem wiE (op rd s1 s2 im : Int) (h : op = 34) : ∃ R v, WordIs op rd s1 s2 im R v := by
  have hp := oc_pos op (by omega)
  have hrt := rtE (oc op) rd s1 s2 im _ (oc_bd op) rfl
  by_cases hv : vE rd s1 s2 im = true
  · refine ⟨oc op, true, ⟨fun w => ieE op rd s1 s2 im w h _ (fun _ => rfl) (fun hn => absurd hv hn), fun w => encE op rd s1 s2 im w h hv, fun w => (spE op rd s1 s2 im w h).mono fun e w' x => ⟨by rw [x.1, hv], x.2⟩, ?_, hrt.1.1, hrt.1.2⟩, fun _ => ?_⟩
    · have o2 := f3_bd op
      have o3 := f7_bd op
      simp only [bne_iff_ne, ne_eq]
      omega
    · obtain ⟨T, cv, fw, fi, t⟩ := hitE op rd s1 s2 im h hv
      obtain ⟨K, hK⟩ : ∃ K : Nat, op = K := ⟨op.toNat, by omega⟩
      subst hK
      exact (dec_hit K _ rd s1 s2 im T cv fw fi (by omega) hrt.1 t).2
  · have hf : vE rd s1 s2 im = false := by simpa using hv
    exact ⟨0, false, ⟨fun w => ieE op rd s1 s2 im w h _ (fun hn => absurd hn hv) (fun _ => rfl), fun w => encNo op rd s1 s2 im w (fun W => (spE op rd s1 s2 im W h).mono fun e w' x => ⟨by rw [x.1, hf], x.2⟩), fun w => (spE op rd s1 s2 im w h).mono fun e w' x => ⟨by rw [x.1, hf], x.2⟩, rfl, by omega, by omega⟩, fun x => by cases x⟩
theorem wiI (op rd s1 s2 im : Int) (h : op = 3 ∨ op = 10 ∨ (12 ≤ op ∧ op ≤ 17)) : ∃ R v, WordIs op rd s1 s2 im R v := by
  have hp := oc_pos op (by omega)
  have hrt := rtI (oc op) (f3 op) rd s1 s2 im _ (oc_bd op) (f3_bd op) rfl
  by_cases hv : vI rd s1 s2 im = true
  · refine ⟨oc op + rd % 32 * 128 + f3 op * 4096 + s1 % 32 * 32768 + im % 4096 * 1048576, true, ⟨fun w => ieI op rd s1 s2 im w h _ (fun _ => rfl) (fun hn => absurd hv hn), fun w => encI op rd s1 s2 im w h hv, fun w => (spI op rd s1 s2 im w h).mono fun e w' x => ⟨by rw [x.1, hv], x.2⟩, ?_, hrt.1.1, hrt.1.2⟩, fun _ => ?_⟩
    · have o2 := f3_bd op
      have o3 := f7_bd op
      simp only [bne_iff_ne, ne_eq]
      omega
    · obtain ⟨T, cv, fw, fi, t⟩ := hitI op rd s1 s2 im h hv
      obtain ⟨K, hK⟩ : ∃ K : Nat, op = K := ⟨op.toNat, by omega⟩
      subst hK
      exact (dec_hit K _ rd s1 s2 im T cv fw fi (by omega) hrt.1 t).2
  · have hf : vI rd s1 s2 im = false := by simpa using hv
    exact ⟨0, false, ⟨fun w => ieI op rd s1 s2 im w h _ (fun hn => absurd hn hv) (fun _ => rfl), fun w => encNo op rd s1 s2 im w (fun W => (spI op rd s1 s2 im W h).mono fun e w' x => ⟨by rw [x.1, hf], x.2⟩), fun w => (spI op rd s1 s2 im w h).mono fun e w' x => ⟨by rw [x.1, hf], x.2⟩, rfl, by omega, by omega⟩, fun x => by cases x⟩
theorem word_any (op rd s1 s2 im : Int) : ∃ R v, WordIs op rd s1 s2 im R v := by
  by_cases h : op < 1 ∨ 34 < op
  · exact ⟨0, false, is_no op rd s1 s2 im h, fun x => by cases x⟩
  · by_cases c1 : op = 1
    · exact wiU op rd s1 s2 im c1
    by_cases c2 : op = 2
    · exact wiJ op rd s1 s2 im c2
    by_cases c3 : 4 ≤ op ∧ op ≤ 9
    · exact wiB op rd s1 s2 im c3
    by_cases c4 : op = 11
    · exact wiS op rd s1 s2 im c4
    by_cases c5 : 18 ≤ op ∧ op ≤ 20
    · exact wiH op rd s1 s2 im c5
    by_cases c6 : 21 ≤ op ∧ op ≤ 33
    · exact wiR op rd s1 s2 im c6
    by_cases c7 : op = 34
    · exact wiE op rd s1 s2 im c7
    exact wiI op rd s1 s2 im (by omega)
end Go.Proofs.Ytdkpinbkmjoicaa
