import Derived.Test.YtdkpinbkmjoicaaDi
namespace Go.Proofs.Ytdkpinbkmjoicaa
open Go.RowKit
set_option linter.unusedVariables false
set_option linter.unusedSimpArgs false
set_option maxRecDepth 100000 in
set_option maxHeartbeats 2000000 in
theorem impl15 (v : Int) (o : Bool) (k a b c d : Int)
    (hD : ∀ (tb : Nat) (W : World), tb < W.heap.size → (∀ j, j < 35 → W.cell? ⟨tb, j, none⟩ = tabA[j]?) →
      Calls Try.prog 31 #[.pointer (some ⟨tb, 0, none⟩), .int .u32 v] W fun e w' => e = .returned (.agg #[.bool o, .int .i64 k, .int .i64 a, .int .i64 b, .int .i64 c, .int .i64 d]) ∧ Below W.heap.size W w') (w : World) :
    Calls Try.prog 10 #[.int .u32 v] w fun e w' => e = .returned (.agg #[.bool o, .int .i64 k, .int .i64 a, .int .i64 b, .int .i64 c, .int .i64 d]) ∧ Below w.heap.size w w' := by
  have HD : Hid _ := hD
  clear hD
  go_enter Try.func10, Try.ntmps10
  go_wp2_with fail
  refine (opShapes_any _).mono ?_
  rintro e w1 ⟨rfl, hb1⟩
  simp only [World.size_alloc] at hb1
  have z1 := hb1.size
  simp only [World.size_alloc] at z1
  go_wp2_with (first
    | (go_at_call 31; refine (HD.out _ _ hs2 HT.out).mono ?_; rintro e w3 ⟨rfl, hb3⟩; have hb13 := hb12.trans (hb3.mono z2); obtain ⟨r3, f3⟩ := box6 hb13; have HB : Hid (Below w.heap.size w w3) := ((Below.refl _ _).alloc (Nat.le_refl _) _).trans (hb13.mono (Nat.le_succ _)); clear hb3 hb13 hb12)
    | (refine store_tab rfl _ _ rfl w1 rfl rfl rfl ?_; intro W2 hT hB2 hs2; have hb12 := hb1.trans (hB2.mono z1); have z2 : w.heap.size + 1 ≤ W2.heap.size := Nat.le_trans z1 (Nat.le_of_lt hs2); have HT : Hid _ := hT; clear hT hB2 hb1))
  refine bodyPost_ret (v := .agg #[.bool o, .int .i64 k, .int .i64 a, .int .i64 b, .int .i64 c, .int .i64 d]) (by simp [results, Try.results10, go_sem, r3, f3]) rfl ⟨rfl, ?_⟩
  exact (((((HB.out.setCell (by simp) _).setCell (by simp) _).setCell (by simp) _).setCell (by simp) _).setCell (by simp) _).setCell (by simp) _
def Hit (v : Int) (n : Nat) : Prop := ∃ rd s1 s2 im T cv fw fi, TryIs n v rd s1 s2 im v T cv fw fi
theorem first_hit (v : Int) : ∀ m : Nat, (∃ K, 1 ≤ K ∧ K ≤ m ∧ Hit v K ∧ ∀ n, 1 ≤ n → n < K → ¬ Hit v n) ∨ (∀ n, 1 ≤ n → n < m + 1 → ¬ Hit v n)
  | 0 => .inr fun n h1 h2 => by omega
  | m + 1 => by
    rcases first_hit v m with ⟨K, h1, h2, h3⟩ | h
    · exact .inl ⟨K, h1, by omega, h3⟩
    · by_cases c : Hit v (m + 1)
      · exact .inl ⟨m + 1, by omega, Nat.le_refl _, c, fun n a b => h n a b⟩
      · refine .inr fun n a b => ?_
        by_cases e : n = m + 1
        · subst e; exact c
        · exact h n a (by omega)
theorem miss_of (v : Int) (hv : 0 ≤ v ∧ v ≤ 4294967295) (n : Nat) (h1 : 1 ≤ n) (h2 : n < 35) (h : ¬ Hit v n) : ∃ rd s1 s2 im R T cv fw fi, (R == v) = false ∧ TryIs n v rd s1 s2 im R T cv fw fi := by
  obtain ⟨rd, s1, s2, im, R, T, cv, fw, fi, t⟩ := try_any n v (by omega) hv
  refine ⟨rd, s1, s2, im, R, T, cv, fw, fi, ?_, t⟩
  by_cases e : R = v
  · subst e; exact absurd ⟨rd, s1, s2, im, T, cv, fw, fi, t⟩ h
  · simpa using e
theorem look_of {v : Int} {n : Nat} {rd s1 s2 im R : Int} {T : TypeId} {cv : Value} {fw fi : Nat} (t : TryIs n v rd s1 s2 im R T cv fw fi) : LookIs n v rd s1 s2 im R :=
  ⟨T, cv, fw, fi, by simpa using t.1, t.2.1, t.2.2.1, t.2.2.2.1, t.2.2.2.2.1, t.2.2.2.2.2.2.2.2.1, t.2.2.2.2.2.2.2.2.2⟩
/-- Both programs say the same of a word. -/
theorem dec_both (v : Int) (hv : 0 ≤ v ∧ v ≤ 4294967295) : ∃ (o : Bool) (k a b c d : Int),
    (∀ w : World, Calls Try.prog 12 #[.int .u32 v] w fun e w' => e = .returned (.agg #[.bool o, .int .i64 k, .int .i64 a, .int .i64 b, .int .i64 c, .int .i64 d]) ∧ Below w.heap.size w w') ∧
    (∀ w : World, Calls Try.prog 10 #[.int .u32 v] w fun e w' => e = .returned (.agg #[.bool o, .int .i64 k, .int .i64 a, .int .i64 b, .int .i64 c, .int .i64 d]) ∧ Below w.heap.size w w') := by
  rcases first_hit v 34 with ⟨K, h1, h2, ⟨a, b, c, d, T, cv, fw, fi, t⟩, hM⟩ | hM
  · refine ⟨true, K, a, b, c, d, fun w => ?_, fun w => impl15 v true K a b c d (fun tb W htb hT => ?_) w⟩
    · refine specHit v hv K ⟨h1, h2⟩ a b c d t.2.2.2.2.2.2.2.1 ⟨t.2.2.2.2.2.1, t.2.2.2.2.2.2.1⟩ (fun n n1 n2 => ?_) w
      obtain ⟨rd, s1, s2, im, R, T', cv', fw', fi', hR, t'⟩ := miss_of v hv n n1 (by omega) (hM n n1 n2)
      exact ⟨rd, s1, s2, im, R, hR, t'.2.2.2.2.2.1, t'.2.2.2.2.2.2.1⟩
    · refine implHit v hv tb K ⟨h1, h2⟩ a b c d (look_of t) (fun n n1 n2 => ?_) W htb hT
      obtain ⟨rd, s1, s2, im, R, T', cv', fw', fi', hR, t'⟩ := miss_of v hv n n1 (by omega) (hM n n1 n2)
      exact ⟨rd, s1, s2, im, R, hR, look_of t'⟩
  · refine ⟨false, 0, 0, 0, 0, 0, fun w => ?_, fun w => impl15 v false 0 0 0 0 0 (fun tb W htb hT => ?_) w⟩
    · refine specMiss v hv (fun n n1 n2 => ?_) w
      obtain ⟨rd, s1, s2, im, R, T', cv', fw', fi', hR, t'⟩ := miss_of v hv n n1 n2 (hM n n1 (by omega))
      exact ⟨rd, s1, s2, im, R, hR, t'.2.2.2.2.2.1, t'.2.2.2.2.2.2.1⟩
    · refine implMiss v hv tb (fun n n1 n2 => ?_) W htb hT
      obtain ⟨rd, s1, s2, im, R, T', cv', fw', fi', hR, t'⟩ := miss_of v hv n n1 n2 (hM n n1 (by omega))
      exact ⟨rd, s1, s2, im, R, hR, look_of t'⟩
end Go.Proofs.Ytdkpinbkmjoicaa
