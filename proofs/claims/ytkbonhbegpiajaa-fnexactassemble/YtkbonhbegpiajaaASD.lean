import Derived.Test.YtkbonhbegpiajaaASC
namespace Go.Proofs.Ytkbonhbegpiajaa
open Go.RowKit
set_option linter.unusedVariables false
set_option linter.unusedSimpArgs false
set_option linter.unusedSectionVars false
variable [Inhabited Pick]

theorem shape_any (op : Int) (h : 1 ≤ op ∧ op ≤ 34) : ∃ s : Int, (s = 66 ↔ 4 ≤ op ∧ op ≤ 9) ∧ ∀ w : World, Calls Try.prog 25 #[.int .i64 op] w fun e w' => e = .returned (.int .u8 s) ∧ w' = w := by
  by_cases hB : 4 ≤ op ∧ op ≤ 9
  · exact ⟨66, ⟨fun _ => hB, fun _ => rfl⟩, fun w => shapeB op w hB⟩
  by_cases hU : op = 1
  · exact ⟨85, ⟨fun h => absurd h (by decide), fun h => absurd h hB⟩, fun w => shapeU op w hU⟩
  by_cases hJ : op = 2
  · exact ⟨74, ⟨fun h => absurd h (by decide), fun h => absurd h hB⟩, fun w => shapeJ op w hJ⟩
  by_cases hS : op = 11
  · exact ⟨83, ⟨fun h => absurd h (by decide), fun h => absurd h hB⟩, fun w => shapeS op w hS⟩
  by_cases hH : 18 ≤ op ∧ op ≤ 20
  · exact ⟨72, ⟨fun h => absurd h (by decide), fun h => absurd h hB⟩, fun w => shapeH op w hH⟩
  by_cases hR : 21 ≤ op ∧ op ≤ 33
  · exact ⟨82, ⟨fun h => absurd h (by decide), fun h => absurd h hB⟩, fun w => shapeR op w hR⟩
  by_cases hE : op = 34
  · exact ⟨69, ⟨fun h => absurd h (by decide), fun h => absurd h hB⟩, fun w => shapeE op w hE⟩
  · exact ⟨73, ⟨fun h => absurd h (by decide), fun h => absurd h hB⟩, fun w => shapeI op w (by omega)⟩

theorem zc (op rd s1 s2 im : Int) : (op = 0 ∧ rd = 0 ∧ s1 = 0 ∧ s2 = 0 ∧ im = 0) ∨ ¬ op = 0 ∨ ¬ rd = 0 ∨ ¬ s1 = 0 ∨ ¬ s2 = 0 ∨ ¬ im = 0 := by omega
set_option maxHeartbeats 4000000 in
theorem gz_yes (k lb : Int) (w : World) (hk : k = 2 ∨ k = 4 ∨ k = 5) (h : 0 ≤ lb) : Calls Try.prog 13 #[.agg #[.int .i64 k, .int .i64 0, .int .i64 0, .int .i64 0, .int .i64 0, .int .i64 0, .int .i64 lb]] w fun e w' => e = .returned (.bool true) ∧ Below w.heap.size w w' := by
  have hd : decide (0 ≤ lb) = true := decide_eq_true h
  rcases hk with rfl | rfl | rfl
  all_goals
    go_enter Try.func13, Try.ntmps13
    go_wp2_with fail
    go_ret
    exact ⟨rfl, (Below.refl _ _).alloc (Nat.le_refl _) _⟩
set_option maxHeartbeats 4000000 in
theorem gz_no (k op rd s1 s2 im lb : Int) (w : World) (hk : k = 2 ∨ k = 4 ∨ k = 5) (hz : ¬ (op = 0 ∧ rd = 0 ∧ s1 = 0 ∧ s2 = 0 ∧ im = 0)) : Calls Try.prog 13 #[.agg #[.int .i64 k, .int .i64 op, .int .i64 rd, .int .i64 s1, .int .i64 s2, .int .i64 im, .int .i64 lb]] w fun e w' => e = .returned (.bool false) ∧ Below w.heap.size w w' := by
  have hc : ¬ op = 0 ∨ ¬ rd = 0 ∨ ¬ s1 = 0 ∨ ¬ s2 = 0 ∨ ¬ im = 0 := by omega
  clear hz
  rcases hk with rfl | rfl | rfl <;> rcases hc with hc | hc | hc | hc | hc
  all_goals
    go_enter Try.func13, Try.ntmps13
    go_wp2_with fail
    go_ret
    exact ⟨rfl, (Below.refl _ _).alloc (Nat.le_refl _) _⟩
set_option maxHeartbeats 4000000 in
theorem gz_neg (k lb : Int) (w : World) (hk : k = 2 ∨ k = 4 ∨ k = 5) (h : lb < 0) : Calls Try.prog 13 #[.agg #[.int .i64 k, .int .i64 0, .int .i64 0, .int .i64 0, .int .i64 0, .int .i64 0, .int .i64 lb]] w fun e w' => e = .returned (.bool false) ∧ Below w.heap.size w w' := by
  have hd : decide (0 ≤ lb) = false := decide_eq_false (by omega)
  rcases hk with rfl | rfl | rfl
  all_goals
    go_enter Try.func13, Try.ntmps13
    go_wp2_with fail
    go_ret
    exact ⟨rfl, (Below.refl _ _).alloc (Nat.le_refl _) _⟩
set_option maxHeartbeats 4000000 in
theorem gelse (k op rd s1 s2 im lb : Int) (w : World) (h1 : ¬ k = 1) (h2 : ¬ k = 2) (h3 : ¬ k = 3) (h4 : ¬ k = 4) (h5 : ¬ k = 5) : Calls Try.prog 13 #[.agg #[.int .i64 k, .int .i64 op, .int .i64 rd, .int .i64 s1, .int .i64 s2, .int .i64 im, .int .i64 lb]] w fun e w' => e = .returned (.bool false) ∧ Below w.heap.size w w' := by
  rcases zc op rd s1 s2 im with ⟨rfl, rfl, rfl, rfl, rfl⟩ | hz | hz | hz | hz | hz
  all_goals
    go_enter Try.func13, Try.ntmps13
    go_wp2_with fail
    go_ret
    exact ⟨rfl, (Below.refl _ _).alloc (Nat.le_refl _) _⟩
set_option maxHeartbeats 4000000 in
theorem gbad (k op rd s1 s2 im lb : Int) (w : World) (hk : k = 1 ∨ k = 3) (HV : Hid (∀ w : World, Calls Try.prog 24 #[.agg #[.int .i64 op, .int .i64 rd, .int .i64 s1, .int .i64 s2, .int .i64 im]] w fun e w' => e = .returned (.bool false) ∧ Below w.heap.size w w')) : Calls Try.prog 13 #[.agg #[.int .i64 k, .int .i64 op, .int .i64 rd, .int .i64 s1, .int .i64 s2, .int .i64 im, .int .i64 lb]] w fun e w' => e = .returned (.bool false) ∧ Below w.heap.size w w' := by
  rcases hk with rfl | rfl <;> rcases zc op rd s1 s2 im with ⟨rfl, rfl, rfl, rfl, rfl⟩ | hz | hz | hz | hz | hz
  all_goals
    go_enter Try.func13, Try.ntmps13
    go_wp2_with fail
    refine (HV.out _).mono ?_
    rintro e w1 ⟨rfl, hb1⟩
    simp only [World.size_alloc] at hb1
    have hB1 := one_belowA hb1
    go_wp2_with fail
    go_ret
    exact ⟨rfl, hB1⟩

set_option maxRecDepth 100000 in
set_option maxHeartbeats 4000000 in
theorem gitem_any (it : It) (w : World) : Calls Try.prog 13 #[itv it] w fun e w' => e = .returned (.bool (goodI it)) ∧ Below w.heap.size w w' := by
  obtain ⟨k, x, lb⟩ := it
  have HV : Hid (∀ w : World, Calls Try.prog 24 #[.agg #[.int .i64 x.op, .int .i64 x.rd, .int .i64 x.s1, .int .i64 x.s2, .int .i64 x.im]] w fun e w' => e = .returned (.bool (eV x)) ∧ Below w.heap.size w w') := fun w => vldS_any x w
  by_cases h1 : k = 1
  · subst h1
    have hg : goodI ⟨1, x, lb⟩ = (eV x && decide (lb = 0)) := by
      unfold goodI
      by_cases hn : lb < 0
      · rw [if_pos hn, decide_eq_false (by omega)]; simp
      · rw [if_neg hn, if_pos rfl]
    rw [hg]
    show Calls _ _ #[.agg #[.int .i64 1, .int .i64 x.op, .int .i64 x.rd, .int .i64 x.s1, .int .i64 x.s2, .int .i64 x.im, .int .i64 lb]] _ _
    cases hb : eV x
    · rw [hb] at HV
      rw [show (false && decide (lb = 0)) = false by simp]
      exact gbad 1 x.op x.rd x.s1 x.s2 x.im lb w (.inl rfl) HV
    have hop := eV_op hb
    rw [hb] at HV
    obtain ⟨op, rd, s1, s2, im⟩ := x
    simp only at HV hop ⊢
    have hz : ¬ op = 0 := by omega
    clear hop hb hg
    by_cases h0 : lb = 0
    · subst h0
      go_enter Try.func13, Try.ntmps13
      go_wp2_with fail
      refine (HV.out _).mono ?_
      rintro e w1 ⟨rfl, hb1⟩
      simp only [World.size_alloc] at hb1
      have hB1 := one_belowA hb1
      obtain ⟨-, -, -, -, -, -, c6⟩ := box7 hb1
      go_wp2_with fail
      go_ret
      exact ⟨rfl, hB1⟩
    · have HD : Hid (decide (lb = 0) = false) := decide_eq_false h0
      have hl' : (lb == 0) = false := by simpa using h0
      go_enter Try.func13, Try.ntmps13
      go_wp2_with fail
      refine (HV.out _).mono ?_
      rintro e w1 ⟨rfl, hb1⟩
      simp only [World.size_alloc] at hb1
      have hB1 := one_belowA hb1
      obtain ⟨-, -, -, -, -, -, c6⟩ := box7 hb1
      go_wp2_with fail
      go_ret
      exact ⟨ret_boolA (by rw [HD.out]; rfl), hB1⟩
  by_cases h3 : k = 3
  · subst h3
    have hg : goodI ⟨3, x, lb⟩ = (eV x && decide (4 ≤ x.op ∧ x.op ≤ 9) && decide (x.im = 0) && decide (0 ≤ lb)) := by
      unfold goodI
      by_cases hn : lb < 0
      · rw [if_pos hn, decide_eq_false (p := 0 ≤ lb) (by omega)]; simp
      · rw [if_neg hn, if_neg (show ¬ (3 : Int) = 1 by decide), if_pos rfl, decide_eq_true (p := 0 ≤ lb) (by omega)]
        simp only [Bool.and_true]
        cases eV x <;> simp
    rw [hg]
    show Calls _ _ #[.agg #[.int .i64 3, .int .i64 x.op, .int .i64 x.rd, .int .i64 x.s1, .int .i64 x.s2, .int .i64 x.im, .int .i64 lb]] _ _
    cases hb : eV x
    · rw [show (false && decide (4 ≤ x.op ∧ x.op ≤ 9) && decide (x.im = 0) && decide (0 ≤ lb)) = false by simp]
      rw [hb] at HV
      exact gbad 3 x.op x.rd x.s1 x.s2 x.im lb w (.inr rfl) HV
    · obtain ⟨sh, hs1, hs2⟩ := shape_any x.op (eV_op hb)
      have HSh : Hid (∀ w : World, Calls Try.prog 25 #[.int .i64 x.op] w fun e w' => e = .returned (.int .u8 sh) ∧ w' = w) := hs2
      have hop := eV_op hb
      rw [hb] at HV
      obtain ⟨op, rd, s1, s2, im⟩ := x
      simp only at HV HSh hs1 hop ⊢
      have hz : ¬ op = 0 := by omega
      clear hb hg hs2 hop
      by_cases h66 : sh = 66
      · have ho := hs1.1 h66
        subst h66
        have HD : Hid ((true && decide (4 ≤ op ∧ op ≤ 9) && decide (im = 0) && decide (0 ≤ lb)) = (decide (im = 0) && decide (0 ≤ lb))) := by show _ = _; rw [decide_eq_true ho]; simp
        clear hs1 ho
        by_cases him : im = 0
        · subst him
          by_cases hlb : 0 ≤ lb
          · have hd : decide (0 ≤ lb) = true := decide_eq_true hlb
            have HE : Hid ((decide ((0 : Int) = 0) && decide (0 ≤ lb)) = true) := by show _ = _; rw [hd]; rfl
            go_enter Try.func13, Try.ntmps13
            go_wp2_with fail
            refine (HV.out _).mono ?_
            rintro e w1 ⟨rfl, hb1⟩
            simp only [World.size_alloc] at hb1
            have hB1 := one_belowA hb1
            obtain ⟨-, c1, -, -, -, c5, c6⟩ := box7 hb1
            go_wp2_with fail
            refine (HSh.out _).mono ?_
            rintro e w2 ⟨rfl, rfl⟩
            go_wp2_with fail
            go_ret
            exact ⟨ret_boolA (by rw [HD.out, HE.out]), hB1⟩
          · have hd : decide (0 ≤ lb) = false := decide_eq_false hlb
            have HE : Hid ((decide ((0 : Int) = 0) && decide (0 ≤ lb)) = false) := by show _ = _; rw [hd]; simp
            go_enter Try.func13, Try.ntmps13
            go_wp2_with fail
            refine (HV.out _).mono ?_
            rintro e w1 ⟨rfl, hb1⟩
            simp only [World.size_alloc] at hb1
            have hB1 := one_belowA hb1
            obtain ⟨-, c1, -, -, -, c5, c6⟩ := box7 hb1
            go_wp2_with fail
            refine (HSh.out _).mono ?_
            rintro e w2 ⟨rfl, rfl⟩
            go_wp2_with fail
            go_ret
            exact ⟨ret_boolA (by rw [HD.out, HE.out]), hB1⟩
        · have HE : Hid ((decide (im = 0) && decide (0 ≤ lb)) = false) := by show _ = _; rw [decide_eq_false him]; rfl
          have hi' : (im == 0) = false := by simpa using him
          go_enter Try.func13, Try.ntmps13
          go_wp2_with fail
          refine (HV.out _).mono ?_
          rintro e w1 ⟨rfl, hb1⟩
          simp only [World.size_alloc] at hb1
          have hB1 := one_belowA hb1
          obtain ⟨-, c1, -, -, -, c5, c6⟩ := box7 hb1
          go_wp2_with fail
          refine (HSh.out _).mono ?_
          rintro e w2 ⟨rfl, rfl⟩
          go_wp2_with fail
          go_ret
          exact ⟨ret_boolA (by rw [HD.out, HE.out]), hB1⟩
      · have HD : Hid ((true && decide (4 ≤ op ∧ op ≤ 9) && decide (im = 0) && decide (0 ≤ lb)) = false) := by show _ = _; rw [decide_eq_false (fun h => h66 (hs1.2 h))]; simp
        have hs' : (sh == 66) = false := by simpa using h66
        clear hs1
        go_enter Try.func13, Try.ntmps13
        go_wp2_with fail
        refine (HV.out _).mono ?_
        rintro e w1 ⟨rfl, hb1⟩
        simp only [World.size_alloc] at hb1
        have hB1 := one_belowA hb1
        obtain ⟨-, c1, -, -, -, c5, c6⟩ := box7 hb1
        go_wp2_with fail
        refine (HSh.out _).mono ?_
        rintro e w2 ⟨rfl, rfl⟩
        go_wp2_with fail
        go_ret
        exact ⟨ret_boolA (by rw [HD.out]), hB1⟩
  by_cases h2 : k = 2 ∨ k = 4 ∨ k = 5
  · by_cases hz : x.op = 0 ∧ x.rd = 0 ∧ x.s1 = 0 ∧ x.s2 = 0 ∧ x.im = 0
    · by_cases hn : lb < 0
      · rw [show goodI ⟨k, x, lb⟩ = false from if_pos hn]
        obtain ⟨e1, e2, e3, e4, e5⟩ := hz
        show Calls _ _ #[.agg #[.int .i64 k, .int .i64 x.op, .int .i64 x.rd, .int .i64 x.s1, .int .i64 x.s2, .int .i64 x.im, .int .i64 lb]] _ _
        rw [e1, e2, e3, e4, e5]
        exact gz_neg k lb w h2 hn
      · have hg : goodI ⟨k, x, lb⟩ = true := by
          unfold goodI
          rw [if_neg hn, if_neg h1, if_neg h3, if_pos h2]
          exact decide_eq_true hz
        rw [hg]
        obtain ⟨e1, e2, e3, e4, e5⟩ := hz
        show Calls _ _ #[.agg #[.int .i64 k, .int .i64 x.op, .int .i64 x.rd, .int .i64 x.s1, .int .i64 x.s2, .int .i64 x.im, .int .i64 lb]] _ _
        rw [e1, e2, e3, e4, e5]
        exact gz_yes k lb w h2 (by omega)
    · have hg : goodI ⟨k, x, lb⟩ = false := by
        unfold goodI
        by_cases hn : lb < 0
        · rw [if_pos hn]
        · rw [if_neg hn, if_neg h1, if_neg h3, if_pos h2]
          exact decide_eq_false hz
      rw [hg]
      exact gz_no k x.op x.rd x.s1 x.s2 x.im lb w h2 hz
  · have hg : goodI ⟨k, x, lb⟩ = false := by
      unfold goodI
      by_cases hn : lb < 0
      · rw [if_pos hn]
      · rw [if_neg hn, if_neg h1, if_neg h3, if_neg h2]
    rw [hg]
    exact gelse k x.op x.rd x.s1 x.s2 x.im lb w h1 (fun h => h2 (.inl h)) h3 (fun h => h2 (.inr (.inl h))) (fun h => h2 (.inr (.inr h)))

end Go.Proofs.Ytkbonhbegpiajaa
