import Derived.Test.YtbmcnjjhgjphmaaDoorFE
namespace Go.Proofs.YtbmcnjjhgjphmaaDoor
open Go.RowKit
set_option linter.unusedVariables false
set_option linter.unusedSimpArgs false

set_option maxRecDepth 100000 in
set_option maxHeartbeats 2000000 in
theorem choice_and_k (x : Int) (ty : TypeId) (yv : Value) (h : x = 0) (w : World) :
    Calls Tryd.prog 39 #[.agg #[.int .i64 x], .iface ty yv, .bool true] w fun e w' => e = .returned (.iface 64 (.agg #[.int .i64 0])) ∧ Below w.heap.size w w' := by
  subst h
  have HT : Hid (∀ W, Calls Tryd.prog 48 #[.bool false] W fun e w' => e = .returned (.int .i64 0) ∧ w' = W) := fun W => tru_any false W
  go_enter Tryd.func39, Tryd.ntmps39
  go_wp2_with fail
  refine (HT.out _).mono ?_
  rintro x w1 ⟨rfl, rfl⟩
  go_wp2_with fail
  go_ret
  exact ⟨rfl, (Below.refl _ _).alloc (Nat.le_refl _) _⟩

set_option maxRecDepth 100000 in
set_option maxHeartbeats 2000000 in
theorem choice_and_n (x y : Int) (hy : inB y) (h : x ≠ 0) (w : World) :
    Calls Tryd.prog 39 #[.agg #[.int .i64 x], .iface 64 (.agg #[.int .i64 y]), .bool true] w fun e w' => e = .returned (.iface 64 (.agg #[.int .i64 (boolN (decide (y ≠ 0)))])) ∧ Below w.heap.size w w' := by
  have hb : (x != 0) = true := by simp [h]
  have HT : Hid (∀ W, Calls Tryd.prog 18 #[.iface 67 (.agg #[.int .i64 12, .iface 64 (.agg #[.int .i64 y]), .iface 64 (.agg #[.int .i64 0])])] W fun e w' => e = .returned (.iface 64 (.agg #[.int .i64 (boolN (decide (y ≠ 0)))])) ∧ Below W.heap.size W w') := fun W => by
    have := fold_bin_nn 12 y 0 W
    rw [ap_ne0 y hy] at this
    have e : (if y = 0 then (0 : Int) else 1) = boolN (decide (y ≠ 0)) := by by_cases h : y = 0 <;> simp [boolN, h]
    rw [e] at this
    exact this
  generalize boolN (decide (y ≠ 0)) = bz at HT ⊢
  go_enter Tryd.func39, Tryd.ntmps39
  go_wp2_with fail
  refine (HT.out _).mono ?_
  rintro x w1 ⟨rfl, hb1⟩
  go_wp2_with fail
  go_ret
  exact ⟨rfl, ((Below.refl _ _).alloc (Nat.le_refl _) _).trans (hb1.mono (by simp))⟩

set_option maxRecDepth 100000 in
set_option maxHeartbeats 2000000 in
theorem choice_and_x (x : Int) (u : TypeId) (yv : Value) (hu : u ≠ 64) (h : x ≠ 0) (w : World) :
    Calls Tryd.prog 39 #[.agg #[.int .i64 x], .iface u yv, .bool true] w fun e w' => e = .returned (.iface 67 (.agg #[.int .i64 12, .iface u yv, .iface 64 (.agg #[.int .i64 0])])) ∧ Below w.heap.size w w' := by
  have hb : (x != 0) = true := by simp [h]
  have HT : Hid (∀ W, Calls Tryd.prog 18 #[.iface 67 (.agg #[.int .i64 12, .iface u yv, .iface 64 (.agg #[.int .i64 0])])] W fun e w' => e = .returned (.iface 67 (.agg #[.int .i64 12, .iface u yv, .iface 64 (.agg #[.int .i64 0])])) ∧ Below W.heap.size W w') := fun W => fold_bin_x 12 u _ yv _ hu W
  go_enter Tryd.func39, Tryd.ntmps39
  go_wp2_with fail
  refine (HT.out _).mono ?_
  rintro x w1 ⟨rfl, hb1⟩
  go_wp2_with fail
  go_ret
  exact ⟨rfl, ((Below.refl _ _).alloc (Nat.le_refl _) _).trans (hb1.mono (by simp))⟩

set_option maxRecDepth 100000 in
set_option maxHeartbeats 2000000 in
theorem fold_and_n (x : Int) (ty : TypeId) (yv : Value) (Z : Value) (w : World) (hC : ∀ W, Calls Tryd.prog 39 #[.agg #[.int .i64 x], .iface ty yv, .bool true] W fun e w' => e = .returned Z ∧ Below W.heap.size W w') :
    Calls Tryd.prog 18 #[.iface 70 (.agg #[.iface 64 (.agg #[.int .i64 x]), .iface ty yv])] w fun e w' => e = .returned Z ∧ Below w.heap.size w w' := by
  have n1 := as_un_no
  have n2 := as_bin_no
  have n3 := as_and_no
  have n4 := as_or_no
  have n5 := as_num_no
  have y1 := as_un_yes
  have y2 := as_bin_yes
  have y3 := as_and_yes
  have y4 := as_or_yes
  have y5 := as_num_yes
  have HC : Hid (∀ W, Calls Tryd.prog 39 #[.agg #[.int .i64 x], .iface ty yv, .bool true] W fun e w' => e = .returned Z ∧ Below W.heap.size W w') := hC
  clear hC
  go_enter Tryd.func18, Tryd.ntmps18
  go_wp2_with fail
  refine (HC.out _).mono ?_
  rintro x w1 ⟨rfl, hb1⟩
  go_wp2_with fail
  go_ret
  exact ⟨rfl, (((Below.refl _ _).alloc (Nat.le_refl _) _).alloc (by simp) _).trans (hb1.mono (by simp; omega))⟩

set_option maxRecDepth 100000 in
set_option maxHeartbeats 2000000 in
theorem choice_or_k (x : Int) (ty : TypeId) (yv : Value) (h : x ≠ 0) (w : World) :
    Calls Tryd.prog 39 #[.agg #[.int .i64 x], .iface ty yv, .bool false] w fun e w' => e = .returned (.iface 64 (.agg #[.int .i64 1])) ∧ Below w.heap.size w w' := by
  have hb : (x != 0) = true := by simp [h]
  have HT : Hid (∀ W, Calls Tryd.prog 48 #[.bool true] W fun e w' => e = .returned (.int .i64 1) ∧ w' = W) := fun W => tru_any true W
  go_enter Tryd.func39, Tryd.ntmps39
  go_wp2_with fail
  refine (HT.out _).mono ?_
  rintro x w1 ⟨rfl, rfl⟩
  go_wp2_with fail
  go_ret
  exact ⟨rfl, (Below.refl _ _).alloc (Nat.le_refl _) _⟩

set_option maxRecDepth 100000 in
set_option maxHeartbeats 2000000 in
theorem choice_or_n (x y : Int) (hy : inB y) (h : x = 0) (w : World) :
    Calls Tryd.prog 39 #[.agg #[.int .i64 x], .iface 64 (.agg #[.int .i64 y]), .bool false] w fun e w' => e = .returned (.iface 64 (.agg #[.int .i64 (boolN (decide (y ≠ 0)))])) ∧ Below w.heap.size w w' := by
  subst h
  have HT : Hid (∀ W, Calls Tryd.prog 18 #[.iface 67 (.agg #[.int .i64 12, .iface 64 (.agg #[.int .i64 y]), .iface 64 (.agg #[.int .i64 0])])] W fun e w' => e = .returned (.iface 64 (.agg #[.int .i64 (boolN (decide (y ≠ 0)))])) ∧ Below W.heap.size W w') := fun W => by
    have := fold_bin_nn 12 y 0 W
    rw [ap_ne0 y hy] at this
    have e : (if y = 0 then (0 : Int) else 1) = boolN (decide (y ≠ 0)) := by by_cases h : y = 0 <;> simp [boolN, h]
    rw [e] at this
    exact this
  generalize boolN (decide (y ≠ 0)) = bz at HT ⊢
  go_enter Tryd.func39, Tryd.ntmps39
  go_wp2_with fail
  refine (HT.out _).mono ?_
  rintro x w1 ⟨rfl, hb1⟩
  go_wp2_with fail
  go_ret
  exact ⟨rfl, ((Below.refl _ _).alloc (Nat.le_refl _) _).trans (hb1.mono (by simp))⟩

set_option maxRecDepth 100000 in
set_option maxHeartbeats 2000000 in
theorem choice_or_x (x : Int) (u : TypeId) (yv : Value) (hu : u ≠ 64) (h : x = 0) (w : World) :
    Calls Tryd.prog 39 #[.agg #[.int .i64 x], .iface u yv, .bool false] w fun e w' => e = .returned (.iface 67 (.agg #[.int .i64 12, .iface u yv, .iface 64 (.agg #[.int .i64 0])])) ∧ Below w.heap.size w w' := by
  subst h
  have HT : Hid (∀ W, Calls Tryd.prog 18 #[.iface 67 (.agg #[.int .i64 12, .iface u yv, .iface 64 (.agg #[.int .i64 0])])] W fun e w' => e = .returned (.iface 67 (.agg #[.int .i64 12, .iface u yv, .iface 64 (.agg #[.int .i64 0])])) ∧ Below W.heap.size W w') := fun W => fold_bin_x 12 u _ yv _ hu W
  go_enter Tryd.func39, Tryd.ntmps39
  go_wp2_with fail
  refine (HT.out _).mono ?_
  rintro x w1 ⟨rfl, hb1⟩
  go_wp2_with fail
  go_ret
  exact ⟨rfl, ((Below.refl _ _).alloc (Nat.le_refl _) _).trans (hb1.mono (by simp))⟩

set_option maxRecDepth 100000 in
set_option maxHeartbeats 2000000 in
theorem fold_or_n (x : Int) (ty : TypeId) (yv : Value) (Z : Value) (w : World) (hC : ∀ W, Calls Tryd.prog 39 #[.agg #[.int .i64 x], .iface ty yv, .bool false] W fun e w' => e = .returned Z ∧ Below W.heap.size W w') :
    Calls Tryd.prog 18 #[.iface 72 (.agg #[.iface 64 (.agg #[.int .i64 x]), .iface ty yv])] w fun e w' => e = .returned Z ∧ Below w.heap.size w w' := by
  have n1 := as_un_no
  have n2 := as_bin_no
  have n3 := as_and_no
  have n4 := as_or_no
  have n5 := as_num_no
  have y1 := as_un_yes
  have y2 := as_bin_yes
  have y3 := as_and_yes
  have y4 := as_or_yes
  have y5 := as_num_yes
  have HC : Hid (∀ W, Calls Tryd.prog 39 #[.agg #[.int .i64 x], .iface ty yv, .bool false] W fun e w' => e = .returned Z ∧ Below W.heap.size W w') := hC
  clear hC
  go_enter Tryd.func18, Tryd.ntmps18
  go_wp2_with fail
  refine (HC.out _).mono ?_
  rintro x w1 ⟨rfl, hb1⟩
  go_wp2_with fail
  go_ret
  exact ⟨rfl, (((Below.refl _ _).alloc (Nat.le_refl _) _).alloc (by simp) _).trans (hb1.mono (by simp; omega))⟩

/-- What folding does to a value, as lists. -/
theorem fv_un {w : World} {S : Nat → Prop} {x : Value} {r : List Nd} (op : Int) (h0 : 0 ≤ op) (h2 : op ≤ 2) (hx : Tv w S x r) (hb : ∀ a, isN r = some a → inB a) (hS : ∀ B, S B → B < w.heap.size) :
    Calls Tryd.prog 18 #[.iface 62 (.agg #[.int .i64 op, x])] w fun e w' => ∃ u, e = .returned u ∧ Tv w' S u (match isN r with | some a => numN (unN op a) | none => r ++ [⟨6, op, ⟨#[]⟩⟩]) ∧ Below w.heap.size w w' := by
  cases hr : isN r with
  | some a =>
    obtain rfl := hx.some hr
    refine (fold_un op a h0 h2 (hb a hr) w).mono ?_
    rintro e w' ⟨rfl, hb⟩
    exact ⟨_, rfl, .num _, hb⟩
  | none =>
    obtain ⟨t, xv, rfl, ht⟩ := hx.none hr
    refine (fold_un_no op t xv ht w).mono ?_
    rintro e w' ⟨rfl, hb⟩
    exact ⟨_, rfl, .un _ _ _ (hx.bel hS hb), hb⟩
theorem fv_bin {w : World} {S : Nat → Prop} {x y : Value} {r t : List Nd} (op : Int) (hx : Tv w S x r) (hy : Tv w S y t) (hS : ∀ B, S B → B < w.heap.size) :
    Calls Tryd.prog 18 #[.iface 67 (.agg #[.int .i64 op, x, y])] w fun e w' => ∃ u, e = .returned u ∧ Tv w' S u (match isN r, isN t with | some a, some b => numN (apN op a b) | _, _ => r ++ t ++ [⟨7, op, ⟨#[]⟩⟩]) ∧ Below w.heap.size w w' := by
  cases hr : isN r with
  | some a =>
    obtain rfl := hx.some hr
    cases ht : isN t with
    | some b =>
      obtain rfl := hy.some ht
      refine (fold_bin_nn op a b w).mono ?_
      rintro e w' ⟨rfl, hb⟩
      exact ⟨_, rfl, .num _, hb⟩
    | none =>
      obtain ⟨u, yv, rfl, hu⟩ := hy.none ht
      refine (fold_bin_no op a u yv hu w).mono ?_
      rintro e w' ⟨rfl, hb⟩
      exact ⟨_, rfl, .bin _ _ _ _ _ (hx.bel hS hb) (hy.bel hS hb), hb⟩
  | none =>
    obtain ⟨u, xv, rfl, hu⟩ := hx.none hr
    obtain ⟨ty, yv, rfl⟩ := hy.isI
    refine (fold_bin_x op u ty xv yv hu w).mono ?_
    rintro e w' ⟨rfl, hb⟩
    exact ⟨_, rfl, .bin _ _ _ _ _ (hx.bel hS hb) (hy.bel hS hb), hb⟩
theorem truthL_some {t : List Nd} {y : Int} (h : isN t = some y) : truthL t = numN (boolN (decide (y ≠ 0))) := by simp [truthL, h]
theorem truthL_none {t : List Nd} (h : isN t = none) : truthL t = t ++ [⟨1, 0, ⟨#[]⟩⟩] ++ [⟨7, 12, ⟨#[]⟩⟩] := by simp [truthL, h]

theorem fv_and {w : World} {S : Nat → Prop} {x y : Value} {r t : List Nd} (hx : Tv w S x r) (hy : Tv w S y t) (hb : ∀ a, isN t = some a → inB a) (hS : ∀ B, S B → B < w.heap.size) :
    Calls Tryd.prog 18 #[.iface 70 (.agg #[x, y])] w fun e w' => ∃ u, e = .returned u ∧ Tv w' S u (match isN r with | some x => if x = 0 then numN 0 else truthL t | none => r ++ t ++ [⟨8, 0, ⟨#[]⟩⟩]) ∧ Below w.heap.size w w' := by
  cases hr : isN r with
  | some x =>
    obtain rfl := hx.some hr
    by_cases h0 : x = 0
    · obtain ⟨ty, yv, rfl⟩ := hy.isI
      refine (fold_and_n x ty yv _ w (fun W => choice_and_k x ty yv h0 W)).mono ?_
      rintro e w' ⟨rfl, hb⟩
      refine ⟨_, rfl, ?_, hb⟩
      simp only [h0, if_true, if_false]
      exact .num _
    · cases ht : isN t with
      | some y =>
        obtain rfl := hy.some ht
        refine (fold_and_n x _ _ _ w (fun W => choice_and_n x y (hb y ht) h0 W)).mono ?_
        rintro e w' ⟨rfl, hb⟩
        refine ⟨_, rfl, ?_, hb⟩
        simp only [h0, if_true, if_false, truthL_some ht]
        exact .num _
      | none =>
        obtain ⟨u, yv, rfl, hu⟩ := hy.none ht
        refine (fold_and_n x _ _ _ w (fun W => choice_and_x x u yv hu h0 W)).mono ?_
        rintro e w' ⟨rfl, hb⟩
        refine ⟨_, rfl, ?_, hb⟩
        simp only [h0, if_true, if_false, truthL_none ht]
        exact .bin _ _ _ _ _ (hy.bel hS hb) (.num _)
  | none =>
    obtain ⟨u, xv, rfl, hu⟩ := hx.none hr
    obtain ⟨ty, yv, rfl⟩ := hy.isI
    refine (fold_and_x u ty xv yv hu w).mono ?_
    rintro e w' ⟨rfl, hb⟩
    exact ⟨_, rfl, .and _ _ _ _ (hx.bel hS hb) (hy.bel hS hb), hb⟩

theorem fv_or {w : World} {S : Nat → Prop} {x y : Value} {r t : List Nd} (hx : Tv w S x r) (hy : Tv w S y t) (hb : ∀ a, isN t = some a → inB a) (hS : ∀ B, S B → B < w.heap.size) :
    Calls Tryd.prog 18 #[.iface 72 (.agg #[x, y])] w fun e w' => ∃ u, e = .returned u ∧ Tv w' S u (match isN r with | some x => if x = 0 then truthL t else numN 1 | none => r ++ t ++ [⟨9, 0, ⟨#[]⟩⟩]) ∧ Below w.heap.size w w' := by
  cases hr : isN r with
  | some x =>
    obtain rfl := hx.some hr
    by_cases h0 : x = 0
    · cases ht : isN t with
      | some y =>
        obtain rfl := hy.some ht
        refine (fold_or_n x _ _ _ w (fun W => choice_or_n x y (hb y ht) h0 W)).mono ?_
        rintro e w' ⟨rfl, hb⟩
        refine ⟨_, rfl, ?_, hb⟩
        simp only [h0, if_true, if_false, truthL_some ht]
        exact .num _
      | none =>
        obtain ⟨u, yv, rfl, hu⟩ := hy.none ht
        refine (fold_or_n x _ _ _ w (fun W => choice_or_x x u yv hu h0 W)).mono ?_
        rintro e w' ⟨rfl, hb⟩
        refine ⟨_, rfl, ?_, hb⟩
        simp only [h0, if_true, if_false, truthL_none ht]
        exact .bin _ _ _ _ _ (hy.bel hS hb) (.num _)
    · obtain ⟨ty, yv, rfl⟩ := hy.isI
      refine (fold_or_n x ty yv _ w (fun W => choice_or_k x ty yv h0 W)).mono ?_
      rintro e w' ⟨rfl, hb⟩
      refine ⟨_, rfl, ?_, hb⟩
      simp only [h0, if_true, if_false]
      exact .num _
  | none =>
    obtain ⟨u, xv, rfl, hu⟩ := hx.none hr
    obtain ⟨ty, yv, rfl⟩ := hy.isI
    refine (fold_or_x u ty xv yv hu w).mono ?_
    rintro e w' ⟨rfl, hb⟩
    exact ⟨_, rfl, .or _ _ _ _ (hx.bel hS hb) (hy.bel hS hb), hb⟩

end Go.Proofs.YtbmcnjjhgjphmaaDoor
