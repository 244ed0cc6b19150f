import Derived.Test.YtdkpinbkmjoicaaDe
namespace Go.Proofs.Ytdkpinbkmjoicaa
open Go.RowKit
set_option linter.unusedVariables false
set_option linter.unusedSimpArgs false
def hasF3 (op : Int) : Bool := decide (3 ≤ op ∧ op ≤ 33)
def hasF7 (op : Int) : Bool := decide (18 ≤ op ∧ op ≤ 33)
/-- What a word shows of its op. -/
def Sig (op R : Int) : Prop := R % 128 = oc op ∧ (hasF3 op = true → R / 4096 % 8 = f3 op) ∧ (hasF7 op = true → R / 33554432 % 128 = f7 op)
def sigSame (m n : Nat) : Bool := (ocL.getD m 0 == ocL.getD n 0) && (!(hasF3 m && hasF3 n) || f3L.getD m 0 == f3L.getD n 0) && (!(hasF7 m && hasF7 n) || f7L.getD m 0 == f7L.getD n 0)
set_option maxRecDepth 100000 in
theorem sig_nat : ∀ m : Nat, m < 35 → ∀ n : Nat, n < 35 → 1 ≤ m → 1 ≤ n → sigSame m n = true → m = n := by decide
theorem sig_one (m n : Int) (hm : 1 ≤ m ∧ m ≤ 34) (hn : 1 ≤ n ∧ n ≤ 34) (R : Int) (a : Sig m R) (b : Sig n R) : m = n := by
  obtain ⟨M, rfl⟩ : ∃ M : Nat, m = M := ⟨m.toNat, by omega⟩
  obtain ⟨K, rfl⟩ : ∃ K : Nat, n = K := ⟨n.toNat, by omega⟩
  have h1 : ocL.getD M 0 = ocL.getD K 0 := a.1.symm.trans b.1
  have h2 : hasF3 M = true → hasF3 K = true → f3L.getD M 0 = f3L.getD K 0 := fun x y => (a.2.1 x).symm.trans (b.2.1 y)
  have h3 : hasF7 M = true → hasF7 K = true → f7L.getD M 0 = f7L.getD K 0 := fun x y => (a.2.2 x).symm.trans (b.2.2 y)
  have hs : sigSame M K = true := by
    unfold sigSame
    rw [h1]
    by_cases c1 : hasF3 M = true <;> by_cases c2 : hasF3 K = true <;> by_cases c3 : hasF7 M = true <;> by_cases c4 : hasF7 K = true <;> simp_all
  have := sig_nat M (by omega) K (by omega) (by omega) (by omega) hs
  omega
/-- TryIs, and more: the program's own word; what the word shows. -/
def Try2 (op v rd s1 s2 im R : Int) (T : TypeId) (cv : Value) (fw fi : Nat) : Prop :=
  TryIs op v rd s1 s2 im R T cv fw fi ∧ Sig op R ∧
  (∀ W : World, Calls Try.prog 6 #[.agg #[.int .i64 op, .int .i64 rd, .int .i64 s1, .int .i64 s2, .int .i64 im]] W fun e w' => e = .returned (.int .u32 R) ∧ Below W.heap.size W w')
theorem sigU (op rd s1 s2 im : Int) (h : op = 1) : Sig op (oc op + rd % 32 * 128 + im % 1048576 * 4096) := by
  have o1 := oc_bd op
  have o2 := f3_bd op
  have o3 := f7_bd op
  exact ⟨by omega, fun x => absurd x (by unfold hasF3; simp; omega), fun x => absurd x (by unfold hasF7; simp; omega)⟩
theorem twoU (op v : Int) (h : op = 1) (hv : 0 ≤ v ∧ v ≤ 4294967295) : Try2 op v (v / 128 % 32) (0) (0) (v / 4096 % 1048576) (oc op + (v / 128 % 32) % 32 * 128 + (v / 4096 % 1048576) % 1048576 * 4096) 85 (.agg #[.int .u32 (oc op)]) 96 95 := by
  have hp := oc_pos op (by omega)
  have hrt := rtU (oc op) (v / 128 % 32) (0) (0) (v / 4096 % 1048576) _ (oc_bd op) rfl
  have o2 := f3_bd op
  have o3 := f7_bd op
  refine ⟨⟨tabU op h, fun W => mwU _ W, fun W => miU _ W, fun W => instU _ v W hv, fun W => wordU _ _ _ _ _ _ W (oc_bd op), fun W => guessU op v W h hv, fun W => encU op _ _ _ _ W h (gvU v hv), ?_, cfwU, cfiU⟩, sigU op (v / 128 % 32) (0) (0) (v / 4096 % 1048576) h, fun W => ieU op _ _ _ _ W h _ (fun _ => rfl) (fun hn => absurd (gvU v hv) hn)⟩
  generalize v / 4096 % 1048576 = z at *
  omega
theorem hitU (op rd s1 s2 im : Int) (h : op = 1) (hv : vU rd s1 s2 im = true) : ∃ T cv fw fi, Try2 op (oc op + rd % 32 * 128 + im % 1048576 * 4096) rd s1 s2 im (oc op + rd % 32 * 128 + im % 1048576 * 4096) T cv fw fi := by
  have hrt := rtU (oc op) rd s1 s2 im _ (oc_bd op) rfl
  obtain ⟨e1, e2, e3, e4⟩ := hrt.2.2 hv
  have t := twoU op _ h hrt.1
  rw [e1, e4] at t
  subst e2 e3
  exact ⟨_, _, _, _, t⟩
theorem sigJ (op rd s1 s2 im : Int) (h : op = 2) : Sig op (oc op + rd % 32 * 128 + im / 4096 % 256 * 4096 + im / 2048 % 2 * 1048576 + im / 2 % 1024 * 2097152 + im / 1048576 % 2 * 2147483648) := by
  have o1 := oc_bd op
  have o2 := f3_bd op
  have o3 := f7_bd op
  obtain ⟨e, i, j, k, l, iq, e1, i1, j1, k1, l1, i2, e3, i3, j3, k3, l3⟩ := decJ im
  obtain ⟨s, sq, s1a, s2a, s3⟩ := dec5 rd
  rw [i1, j1, k1, l1, s1a]
  clear i1 j1 k1 l1 s1a e1 i2 s2a
  exact ⟨by omega, fun x => absurd x (by unfold hasF3; simp; omega), fun x => absurd x (by unfold hasF7; simp; omega)⟩
theorem twoJ (op v : Int) (h : op = 2) (hv : 0 ≤ v ∧ v ≤ 4294967295) : Try2 op v (v / 128 % 32) (0) (0) (sg (v / 2097152 % 1024 * 2 + v / 1048576 % 2 * 2048 + v / 4096 % 256 * 4096 + v / 2147483648 % 2 * 1048576) 1048576 2097152) (oc op + (v / 128 % 32) % 32 * 128 + (sg (v / 2097152 % 1024 * 2 + v / 1048576 % 2 * 2048 + v / 4096 % 256 * 4096 + v / 2147483648 % 2 * 1048576) 1048576 2097152) / 4096 % 256 * 4096 + (sg (v / 2097152 % 1024 * 2 + v / 1048576 % 2 * 2048 + v / 4096 % 256 * 4096 + v / 2147483648 % 2 * 1048576) 1048576 2097152) / 2048 % 2 * 1048576 + (sg (v / 2097152 % 1024 * 2 + v / 1048576 % 2 * 2048 + v / 4096 % 256 * 4096 + v / 2147483648 % 2 * 1048576) 1048576 2097152) / 2 % 1024 * 2097152 + (sg (v / 2097152 % 1024 * 2 + v / 1048576 % 2 * 2048 + v / 4096 % 256 * 4096 + v / 2147483648 % 2 * 1048576) 1048576 2097152) / 1048576 % 2 * 2147483648) 86 (.agg #[.int .u32 (oc op)]) 101 100 := by
  have hp := oc_pos op (by omega)
  have hrt := rtJ (oc op) (v / 128 % 32) (0) (0) (sg (v / 2097152 % 1024 * 2 + v / 1048576 % 2 * 2048 + v / 4096 % 256 * 4096 + v / 2147483648 % 2 * 1048576) 1048576 2097152) _ (oc_bd op) rfl
  have o2 := f3_bd op
  have o3 := f7_bd op
  refine ⟨⟨tabJ op h, fun W => mwJ _ W, fun W => miJ _ W, fun W => instJ _ v W hv, fun W => wordJ _ _ _ _ _ _ W (oc_bd op), fun W => guessJ op v W h hv, fun W => encJ op _ _ _ _ W h (gvJ v hv), ?_, cfwJ, cfiJ⟩, sigJ op (v / 128 % 32) (0) (0) (sg (v / 2097152 % 1024 * 2 + v / 1048576 % 2 * 2048 + v / 4096 % 256 * 4096 + v / 2147483648 % 2 * 1048576) 1048576 2097152) h, fun W => ieJ op _ _ _ _ W h _ (fun _ => rfl) (fun hn => absurd (gvJ v hv) hn)⟩
  generalize sg (v / 2097152 % 1024 * 2 + v / 1048576 % 2 * 2048 + v / 4096 % 256 * 4096 + v / 2147483648 % 2 * 1048576) 1048576 2097152 = z at *
  omega
theorem hitJ (op rd s1 s2 im : Int) (h : op = 2) (hv : vJ rd s1 s2 im = true) : ∃ T cv fw fi, Try2 op (oc op + rd % 32 * 128 + im / 4096 % 256 * 4096 + im / 2048 % 2 * 1048576 + im / 2 % 1024 * 2097152 + im / 1048576 % 2 * 2147483648) rd s1 s2 im (oc op + rd % 32 * 128 + im / 4096 % 256 * 4096 + im / 2048 % 2 * 1048576 + im / 2 % 1024 * 2097152 + im / 1048576 % 2 * 2147483648) T cv fw fi := by
  have hrt := rtJ (oc op) rd s1 s2 im _ (oc_bd op) rfl
  obtain ⟨e1, e2, e3, e4⟩ := hrt.2.2 hv
  have t := twoJ op _ h hrt.1
  rw [e1, e4] at t
  subst e2 e3
  exact ⟨_, _, _, _, t⟩
theorem sigB (op rd s1 s2 im : Int) (h : 4 ≤ op ∧ op ≤ 9) : Sig op (oc op + im / 2048 % 2 * 128 + im / 2 % 16 * 256 + f3 op * 4096 + s1 % 32 * 32768 + s2 % 32 * 1048576 + im / 32 % 64 * 33554432 + im / 4096 % 2 * 2147483648) := by
  have o1 := oc_bd op
  have o2 := f3_bd op
  have o3 := f7_bd op
  obtain ⟨e, i, j, k, l, iq, e1, i1, j1, k1, l1, i2, e3, i3, j3, k3, l3⟩ := decB im
  obtain ⟨s, sq, s1a, s2a, s3⟩ := dec5 s1
  obtain ⟨t, tq, t1, t2, t3⟩ := dec5 s2
  rw [i1, j1, k1, l1, s1a, t1]
  clear i1 j1 k1 l1 s1a t1 e1 i2 s2a t2
  exact ⟨by omega, fun _ => by omega, fun x => absurd x (by unfold hasF7; simp; omega)⟩
theorem twoB (op v : Int) (h : 4 ≤ op ∧ op ≤ 9) (hv : 0 ≤ v ∧ v ≤ 4294967295) : Try2 op v (0) (v / 32768 % 32) (v / 1048576 % 32) (sg (v / 256 % 16 * 2 + v / 33554432 % 64 * 32 + v / 128 % 2 * 2048 + v / 2147483648 % 2 * 4096) 4096 8192) (oc op + (sg (v / 256 % 16 * 2 + v / 33554432 % 64 * 32 + v / 128 % 2 * 2048 + v / 2147483648 % 2 * 4096) 4096 8192) / 2048 % 2 * 128 + (sg (v / 256 % 16 * 2 + v / 33554432 % 64 * 32 + v / 128 % 2 * 2048 + v / 2147483648 % 2 * 4096) 4096 8192) / 2 % 16 * 256 + f3 op * 4096 + (v / 32768 % 32) % 32 * 32768 + (v / 1048576 % 32) % 32 * 1048576 + (sg (v / 256 % 16 * 2 + v / 33554432 % 64 * 32 + v / 128 % 2 * 2048 + v / 2147483648 % 2 * 4096) 4096 8192) / 32 % 64 * 33554432 + (sg (v / 256 % 16 * 2 + v / 33554432 % 64 * 32 + v / 128 % 2 * 2048 + v / 2147483648 % 2 * 4096) 4096 8192) / 4096 % 2 * 2147483648) 89 (.agg #[.int .u32 (oc op), .int .u32 (f3 op)]) 109 108 := by
  have hp := oc_pos op (by omega)
  have hrt := rtB (oc op) (f3 op) (0) (v / 32768 % 32) (v / 1048576 % 32) (sg (v / 256 % 16 * 2 + v / 33554432 % 64 * 32 + v / 128 % 2 * 2048 + v / 2147483648 % 2 * 4096) 4096 8192) _ (oc_bd op) (f3_bd op) rfl
  have o2 := f3_bd op
  have o3 := f7_bd op
  refine ⟨⟨tabB op h, fun W => mwB _ _ W, fun W => miB _ _ W, fun W => instB _ _ v W hv, fun W => wordB _ _ _ _ _ _ _ W (oc_bd op) (f3_bd op), fun W => guessB op v W h hv, fun W => encB op _ _ _ _ W h (gvB v hv), ?_, cfwB, cfiB⟩, sigB op (0) (v / 32768 % 32) (v / 1048576 % 32) (sg (v / 256 % 16 * 2 + v / 33554432 % 64 * 32 + v / 128 % 2 * 2048 + v / 2147483648 % 2 * 4096) 4096 8192) h, fun W => ieB op _ _ _ _ W h _ (fun _ => rfl) (fun hn => absurd (gvB v hv) hn)⟩
  generalize sg (v / 256 % 16 * 2 + v / 33554432 % 64 * 32 + v / 128 % 2 * 2048 + v / 2147483648 % 2 * 4096) 4096 8192 = z at *
  omega
theorem hitB (op rd s1 s2 im : Int) (h : 4 ≤ op ∧ op ≤ 9) (hv : vB rd s1 s2 im = true) : ∃ T cv fw fi, Try2 op (oc op + im / 2048 % 2 * 128 + im / 2 % 16 * 256 + f3 op * 4096 + s1 % 32 * 32768 + s2 % 32 * 1048576 + im / 32 % 64 * 33554432 + im / 4096 % 2 * 2147483648) rd s1 s2 im (oc op + im / 2048 % 2 * 128 + im / 2 % 16 * 256 + f3 op * 4096 + s1 % 32 * 32768 + s2 % 32 * 1048576 + im / 32 % 64 * 33554432 + im / 4096 % 2 * 2147483648) T cv fw fi := by
  have hrt := rtB (oc op) (f3 op) rd s1 s2 im _ (oc_bd op) (f3_bd op) rfl
  obtain ⟨e1, e2, e3, e4⟩ := hrt.2.2 hv
  have t := twoB op _ h hrt.1
  rw [e2, e3, e4] at t
  subst e1
  exact ⟨_, _, _, _, t⟩
theorem sigS (op rd s1 s2 im : Int) (h : op = 11) : Sig op (oc op + im % 32 * 128 + f3 op * 4096 + s1 % 32 * 32768 + s2 % 32 * 1048576 + im / 32 % 128 * 33554432) := by
  have o1 := oc_bd op
  have o2 := f3_bd op
  have o3 := f7_bd op
  obtain ⟨i, j, iq, i1, j1, i2, i3, j3⟩ := decS im
  obtain ⟨s, sq, s1a, s2a, s3⟩ := dec5 s1
  obtain ⟨t, tq, t1, t2, t3⟩ := dec5 s2
  rw [i1, j1, s1a, t1]
  clear i1 j1 s1a t1 i2 s2a t2
  exact ⟨by omega, fun _ => by omega, fun x => absurd x (by unfold hasF7; simp; omega)⟩
theorem twoS (op v : Int) (h : op = 11) (hv : 0 ≤ v ∧ v ≤ 4294967295) : Try2 op v (0) (v / 32768 % 32) (v / 1048576 % 32) (sg (v / 128 % 32 + v / 33554432 % 128 * 32) 2048 4096) (oc op + (sg (v / 128 % 32 + v / 33554432 % 128 * 32) 2048 4096) % 32 * 128 + f3 op * 4096 + (v / 32768 % 32) % 32 * 32768 + (v / 1048576 % 32) % 32 * 1048576 + (sg (v / 128 % 32 + v / 33554432 % 128 * 32) 2048 4096) / 32 % 128 * 33554432) 90 (.agg #[.int .u32 (oc op), .int .u32 (f3 op)]) 113 112 := by
  have hp := oc_pos op (by omega)
  have hrt := rtS (oc op) (f3 op) (0) (v / 32768 % 32) (v / 1048576 % 32) (sg (v / 128 % 32 + v / 33554432 % 128 * 32) 2048 4096) _ (oc_bd op) (f3_bd op) rfl
  have o2 := f3_bd op
  have o3 := f7_bd op
  refine ⟨⟨tabS op h, fun W => mwS _ _ W, fun W => miS _ _ W, fun W => instS _ _ v W hv, fun W => wordS _ _ _ _ _ _ _ W (oc_bd op) (f3_bd op), fun W => guessS op v W h hv, fun W => encS op _ _ _ _ W h (gvS v hv), ?_, cfwS, cfiS⟩, sigS op (0) (v / 32768 % 32) (v / 1048576 % 32) (sg (v / 128 % 32 + v / 33554432 % 128 * 32) 2048 4096) h, fun W => ieS op _ _ _ _ W h _ (fun _ => rfl) (fun hn => absurd (gvS v hv) hn)⟩
  generalize sg (v / 128 % 32 + v / 33554432 % 128 * 32) 2048 4096 = z at *
  omega
theorem hitS (op rd s1 s2 im : Int) (h : op = 11) (hv : vS rd s1 s2 im = true) : ∃ T cv fw fi, Try2 op (oc op + im % 32 * 128 + f3 op * 4096 + s1 % 32 * 32768 + s2 % 32 * 1048576 + im / 32 % 128 * 33554432) rd s1 s2 im (oc op + im % 32 * 128 + f3 op * 4096 + s1 % 32 * 32768 + s2 % 32 * 1048576 + im / 32 % 128 * 33554432) T cv fw fi := by
  have hrt := rtS (oc op) (f3 op) rd s1 s2 im _ (oc_bd op) (f3_bd op) rfl
  obtain ⟨e1, e2, e3, e4⟩ := hrt.2.2 hv
  have t := twoS op _ h hrt.1
  rw [e2, e3, e4] at t
  subst e1
  exact ⟨_, _, _, _, t⟩
theorem sigH (op rd s1 s2 im : Int) (h : 18 ≤ op ∧ op ≤ 20) : Sig op (oc op + rd % 32 * 128 + f3 op * 4096 + s1 % 32 * 32768 + im % 32 * 1048576 + f7 op * 33554432) := by
  have o1 := oc_bd op
  have o2 := f3_bd op
  have o3 := f7_bd op
  exact ⟨by omega, fun _ => by omega, fun _ => by omega⟩
theorem twoH (op v : Int) (h : 18 ≤ op ∧ op ≤ 20) (hv : 0 ≤ v ∧ v ≤ 4294967295) : Try2 op v (v / 128 % 32) (v / 32768 % 32) (0) (v / 1048576 % 32) (oc op + (v / 128 % 32) % 32 * 128 + f3 op * 4096 + (v / 32768 % 32) % 32 * 32768 + (v / 1048576 % 32) % 32 * 1048576 + f7 op * 33554432) 92 (.agg #[.int .u32 (oc op), .int .u32 (f3 op), .int .u32 (f7 op)]) 115 114 := by
  have hp := oc_pos op (by omega)
  have hrt := rtH (oc op) (f3 op) (f7 op) (v / 128 % 32) (v / 32768 % 32) (0) (v / 1048576 % 32) _ (oc_bd op) (f3_bd op) (f7_bd op) rfl
  have o2 := f3_bd op
  have o3 := f7_bd op
  refine ⟨⟨tabH op h, fun W => mwH _ _ _ W, fun W => miH _ _ _ W, fun W => instH _ _ _ v W hv, fun W => wordH _ _ _ _ _ _ _ _ W (oc_bd op) (f3_bd op) (f7_bd op), fun W => guessH op v W h hv, fun W => encH op _ _ _ _ W h (gvH v hv), ?_, cfwH, cfiH⟩, sigH op (v / 128 % 32) (v / 32768 % 32) (0) (v / 1048576 % 32) h, fun W => ieH op _ _ _ _ W h _ (fun _ => rfl) (fun hn => absurd (gvH v hv) hn)⟩
  generalize v / 1048576 % 32 = z at *
  omega
theorem hitH (op rd s1 s2 im : Int) (h : 18 ≤ op ∧ op ≤ 20) (hv : vH rd s1 s2 im = true) : ∃ T cv fw fi, Try2 op (oc op + rd % 32 * 128 + f3 op * 4096 + s1 % 32 * 32768 + im % 32 * 1048576 + f7 op * 33554432) rd s1 s2 im (oc op + rd % 32 * 128 + f3 op * 4096 + s1 % 32 * 32768 + im % 32 * 1048576 + f7 op * 33554432) T cv fw fi := by
  have hrt := rtH (oc op) (f3 op) (f7 op) rd s1 s2 im _ (oc_bd op) (f3_bd op) (f7_bd op) rfl
  obtain ⟨e1, e2, e3, e4⟩ := hrt.2.2 hv
  have t := twoH op _ h hrt.1
  rw [e1, e2, e4] at t
  subst e3
  exact ⟨_, _, _, _, t⟩
theorem sigR (op rd s1 s2 im : Int) (h : 21 ≤ op ∧ op ≤ 33) : Sig op (oc op + rd % 32 * 128 + f3 op * 4096 + s1 % 32 * 32768 + s2 % 32 * 1048576 + f7 op * 33554432) := by
  have o1 := oc_bd op
  have o2 := f3_bd op
  have o3 := f7_bd op
  exact ⟨by omega, fun _ => by omega, fun _ => by omega⟩
theorem twoR (op v : Int) (h : 21 ≤ op ∧ op ≤ 33) (hv : 0 ≤ v ∧ v ≤ 4294967295) : Try2 op v (v / 128 % 32) (v / 32768 % 32) (v / 1048576 % 32) (0) (oc op + (v / 128 % 32) % 32 * 128 + f3 op * 4096 + (v / 32768 % 32) % 32 * 32768 + (v / 1048576 % 32) % 32 * 1048576 + f7 op * 33554432) 93 (.agg #[.int .u32 (oc op), .int .u32 (f3 op), .int .u32 (f7 op)]) 117 116 := by
  have hp := oc_pos op (by omega)
  have hrt := rtR (oc op) (f3 op) (f7 op) (v / 128 % 32) (v / 32768 % 32) (v / 1048576 % 32) (0) _ (oc_bd op) (f3_bd op) (f7_bd op) rfl
  have o2 := f3_bd op
  have o3 := f7_bd op
  refine ⟨⟨tabR op h, fun W => mwR _ _ _ W, fun W => miR _ _ _ W, fun W => instR _ _ _ v W hv, fun W => wordR _ _ _ _ _ _ _ _ W (oc_bd op) (f3_bd op) (f7_bd op), fun W => guessR op v W h hv, fun W => encR op _ _ _ _ W h (gvR v hv), ?_, cfwR, cfiR⟩, sigR op (v / 128 % 32) (v / 32768 % 32) (v / 1048576 % 32) (0) h, fun W => ieR op _ _ _ _ W h _ (fun _ => rfl) (fun hn => absurd (gvR v hv) hn)⟩
  omega
theorem hitR (op rd s1 s2 im : Int) (h : 21 ≤ op ∧ op ≤ 33) (hv : vR rd s1 s2 im = true) : ∃ T cv fw fi, Try2 op (oc op + rd % 32 * 128 + f3 op * 4096 + s1 % 32 * 32768 + s2 % 32 * 1048576 + f7 op * 33554432) rd s1 s2 im (oc op + rd % 32 * 128 + f3 op * 4096 + s1 % 32 * 32768 + s2 % 32 * 1048576 + f7 op * 33554432) T cv fw fi := by
  have hrt := rtR (oc op) (f3 op) (f7 op) rd s1 s2 im _ (oc_bd op) (f3_bd op) (f7_bd op) rfl
  obtain ⟨e1, e2, e3, e4⟩ := hrt.2.2 hv
  have t := twoR op _ h hrt.1
  rw [e1, e2, e3] at t
  subst e4
  exact ⟨_, _, _, _, t⟩
theorem sigE (op rd s1 s2 im : Int) (h : op = 34) : Sig op (oc op) := by
  have o1 := oc_bd op
  have o2 := f3_bd op
  have o3 := f7_bd op
  exact ⟨by omega, fun x => absurd x (by unfold hasF3; simp; omega), fun x => absurd x (by unfold hasF7; simp; omega)⟩
theorem twoE (op v : Int) (h : op = 34) (hv : 0 ≤ v ∧ v ≤ 4294967295) : Try2 op v (0) (0) (0) (0) (oc op) 94 (.agg #[.int .u32 (oc op)]) 119 118 := by
  have hp := oc_pos op (by omega)
  have hrt := rtE (oc op) (0) (0) (0) (0) _ (oc_bd op) rfl
  have o2 := f3_bd op
  have o3 := f7_bd op
  refine ⟨⟨tabE op h, fun W => mwE _ W, fun W => miE _ W, fun W => instE _ v W hv, fun W => wordE _ _ _ _ _ _ W (oc_bd op), fun W => guessE op v W h hv, fun W => encE op _ _ _ _ W h (gvE v hv), ?_, cfwE, cfiE⟩, sigE op (0) (0) (0) (0) h, fun W => ieE op _ _ _ _ W h _ (fun _ => rfl) (fun hn => absurd (gvE v hv) hn)⟩
  omega
theorem hitE (op rd s1 s2 im : Int) (h : op = 34) (hv : vE rd s1 s2 im = true) : ∃ T cv fw fi, Try2 op (oc op) rd s1 s2 im (oc op) T cv fw fi := by
  have hrt := rtE (oc op) rd s1 s2 im _ (oc_bd op) rfl
  obtain ⟨e1, e2, e3, e4⟩ := hrt.2.2 hv
  have t := twoE op _ h hrt.1
  subst e1 e2 e3 e4
  exact ⟨_, _, _, _, t⟩
theorem sigI (op rd s1 s2 im : Int) (h : op = 3 ∨ op = 10 ∨ (12 ≤ op ∧ op ≤ 17)) : Sig op (oc op + rd % 32 * 128 + f3 op * 4096 + s1 % 32 * 32768 + im % 4096 * 1048576) := by
  have o1 := oc_bd op
  have o2 := f3_bd op
  have o3 := f7_bd op
  exact ⟨by omega, fun _ => by omega, fun x => absurd x (by unfold hasF7; simp; omega)⟩
theorem twoI (op v : Int) (h : op = 3 ∨ op = 10 ∨ (12 ≤ op ∧ op ≤ 17)) (hv : 0 ≤ v ∧ v ≤ 4294967295) : Try2 op v (v / 128 % 32) (v / 32768 % 32) (0) (sg (v / 1048576 % 4096) 2048 4096) (oc op + (v / 128 % 32) % 32 * 128 + f3 op * 4096 + (v / 32768 % 32) % 32 * 32768 + (sg (v / 1048576 % 4096) 2048 4096) % 4096 * 1048576) 88 (.agg #[.int .u32 (oc op), .int .u32 (f3 op)]) 104 103 := by
  have hp := oc_pos op (by omega)
  have hrt := rtI (oc op) (f3 op) (v / 128 % 32) (v / 32768 % 32) (0) (sg (v / 1048576 % 4096) 2048 4096) _ (oc_bd op) (f3_bd op) rfl
  have o2 := f3_bd op
  have o3 := f7_bd op
  refine ⟨⟨tabI op h, fun W => mwI _ _ W, fun W => miI _ _ W, fun W => instI _ _ v W hv, fun W => wordI _ _ _ _ _ _ _ W (oc_bd op) (f3_bd op), fun W => guessI op v W h hv, fun W => encI op _ _ _ _ W h (gvI v hv), ?_, cfwI, cfiI⟩, sigI op (v / 128 % 32) (v / 32768 % 32) (0) (sg (v / 1048576 % 4096) 2048 4096) h, fun W => ieI op _ _ _ _ W h _ (fun _ => rfl) (fun hn => absurd (gvI v hv) hn)⟩
  generalize sg (v / 1048576 % 4096) 2048 4096 = z at *
  omega
theorem hitI (op rd s1 s2 im : Int) (h : op = 3 ∨ op = 10 ∨ (12 ≤ op ∧ op ≤ 17)) (hv : vI rd s1 s2 im = true) : ∃ T cv fw fi, Try2 op (oc op + rd % 32 * 128 + f3 op * 4096 + s1 % 32 * 32768 + im % 4096 * 1048576) rd s1 s2 im (oc op + rd % 32 * 128 + f3 op * 4096 + s1 % 32 * 32768 + im % 4096 * 1048576) T cv fw fi := by
  have hrt := rtI (oc op) (f3 op) rd s1 s2 im _ (oc_bd op) (f3_bd op) rfl
  obtain ⟨e1, e2, e3, e4⟩ := hrt.2.2 hv
  have t := twoI op _ h hrt.1
  rw [e1, e2, e4] at t
  subst e3
  exact ⟨_, _, _, _, t⟩
end Go.Proofs.Ytdkpinbkmjoicaa
