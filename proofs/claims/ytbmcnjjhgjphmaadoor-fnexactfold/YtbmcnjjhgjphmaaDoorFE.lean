import Derived.Test.YtbmcnjjhgjphmaaDoorFC
import Derived.Test.YtbmcnjjhgjphmaaDoorFB
import Derived.Test.YtbmcnjjhgjphmaaDoorTA
namespace Go.Proofs.YtbmcnjjhgjphmaaDoor
open Go.RowKit
set_option linter.unusedVariables false
set_option linter.unusedSimpArgs false

theorem Tv.bel {w w' : World} {S : Nat → Prop} {v : Value} {r : List Nd} (h : Tv w S v r) (hS : ∀ B, S B → B < w.heap.size) (hb : Below w.heap.size w w') : Tv w' S v r := h.keep (fun _ h => h) (fun B hB => hb.block B (hS B hB))

set_option maxHeartbeats 1000000 in
theorem tru_any (b : Bool) (w : World) : Calls Tryd.prog 48 #[.bool b] w fun e w' => e = .returned (.int .i64 (boolN b)) ∧ w' = w := by
  cases b
  · go_enter Tryd.func48, Tryd.ntmps48
    go_wp2_with fail
    go_ret
    exact ⟨rfl, rfl⟩
  · go_enter Tryd.func48, Tryd.ntmps48
    go_wp2_with fail
    go_ret
    exact ⟨rfl, rfl⟩

set_option maxRecDepth 100000 in
set_option maxHeartbeats 2000000 in
theorem fold_un (op a : Int) (h0 : 0 ≤ op) (h2 : op ≤ 2) (ha : inB a) (w : World) :
    Calls Tryd.prog 18 #[.iface 62 (.agg #[.int .i64 op, .iface 64 (.agg #[.int .i64 a])])] w fun e w' => e = .returned (.iface 64 (.agg #[.int .i64 (unN op a)])) ∧ Below w.heap.size w w' := by
  have HU : Hid (∀ W, Calls Tryd.prog 37 #[.int .i64 op, .int .i64 a] W fun e w' => e = .returned (.int .i64 (unN op a)) ∧ w' = W) := fun W => unI_any op a h0 h2 ha W
  have a1 := as_un_yes
  have a2 := as_num_yes
  go_enter Tryd.func18, Tryd.ntmps18
  go_wp2_with fail
  refine (HU.out _).mono ?_
  rintro x w1 ⟨rfl, rfl⟩
  go_wp2_with fail
  go_ret
  exact ⟨rfl, ((Below.refl _ _).alloc (Nat.le_refl _) _).alloc (by simp) _⟩

set_option maxRecDepth 100000 in
set_option maxHeartbeats 2000000 in
theorem fold_un_no (op : Int) (u : TypeId) (xv : Value) (hu : u ≠ 64) (w : World) :
    Calls Tryd.prog 18 #[.iface 62 (.agg #[.int .i64 op, .iface u xv])] w fun e w' => e = .returned (.iface 62 (.agg #[.int .i64 op, .iface u xv])) ∧ Below w.heap.size w w' := by
  have n1 := as_un_no
  have n2 := as_bin_no
  have n3 := as_and_no
  have n4 := as_or_no
  have n5 := as_num_no
  have y1 := as_un_yes
  have y2 := as_bin_yes
  have y3 := as_and_yes
  have y4 := as_or_yes
  have y5 := as_num_yes
  go_enter Tryd.func18, Tryd.ntmps18
  go_wp2_with fail
  go_ret
  exact ⟨rfl, ((Below.refl _ _).alloc (Nat.le_refl _) _).alloc (by simp) _⟩

set_option maxRecDepth 100000 in
set_option maxHeartbeats 2000000 in
theorem right_num (op a b : Int) (ux : TypeId) (xv : Value) (w : World) :
    Calls Tryd.prog 38 #[.agg #[.int .i64 op, .iface ux xv, .iface 64 (.agg #[.int .i64 b])], .agg #[.int .i64 a]] w fun e w' => e = .returned (.iface 64 (.agg #[.int .i64 (apN op a b)])) ∧ Below w.heap.size w w' := by
  have n1 := as_un_no
  have n2 := as_bin_no
  have n3 := as_and_no
  have n4 := as_or_no
  have n5 := as_num_no
  have y1 := as_un_yes
  have y2 := as_bin_yes
  have y3 := as_and_yes
  have y4 := as_or_yes
  have y5 := as_num_yes
  have HA : Hid (∀ W, Calls Tryd.prog 49 #[.int .i64 op, .int .i64 a, .int .i64 b] W fun e w' => e = .returned (.int .i64 (apN op a b)) ∧ w' = W) := fun W => ap_i op a b W
  go_enter Tryd.func38, Tryd.ntmps38
  go_wp2_with fail
  refine (HA.out _).mono ?_
  rintro x w1 ⟨rfl, rfl⟩
  go_wp2_with fail
  go_ret
  exact ⟨rfl, (((Below.refl _ _).alloc (Nat.le_refl _) _).alloc (by simp) _).alloc (by simp; omega) _⟩

set_option maxRecDepth 100000 in
set_option maxHeartbeats 2000000 in
theorem right_no (op a : Int) (ux u : TypeId) (xv yv : Value) (hu : u ≠ 64) (w : World) :
    Calls Tryd.prog 38 #[.agg #[.int .i64 op, .iface ux xv, .iface u yv], .agg #[.int .i64 a]] w fun e w' => e = .returned (.iface 67 (.agg #[.int .i64 op, .iface ux xv, .iface u yv])) ∧ Below w.heap.size w w' := by
  have n1 := as_un_no
  have n2 := as_bin_no
  have n3 := as_and_no
  have n4 := as_or_no
  have n5 := as_num_no
  have y1 := as_un_yes
  have y2 := as_bin_yes
  have y3 := as_and_yes
  have y4 := as_or_yes
  have y5 := as_num_yes
  go_enter Tryd.func38, Tryd.ntmps38
  go_wp2_with fail
  go_ret
  exact ⟨rfl, (((Below.refl _ _).alloc (Nat.le_refl _) _).alloc (by simp) _).alloc (by simp; omega) _⟩

set_option maxRecDepth 100000 in
set_option maxHeartbeats 2000000 in
theorem fold_bin_nn (op a b : Int) (w : World) :
    Calls Tryd.prog 18 #[.iface 67 (.agg #[.int .i64 op, .iface 64 (.agg #[.int .i64 a]), .iface 64 (.agg #[.int .i64 b])])] w fun e w' => e = .returned (.iface 64 (.agg #[.int .i64 (apN op a b)])) ∧ Below w.heap.size w w' := by
  have n1 := as_un_no
  have n2 := as_bin_no
  have n3 := as_and_no
  have n4 := as_or_no
  have n5 := as_num_no
  have y1 := as_un_yes
  have y2 := as_bin_yes
  have y3 := as_and_yes
  have y4 := as_or_yes
  have y5 := as_num_yes
  have HA : Hid (∀ W, Calls Tryd.prog 38 #[.agg #[.int .i64 op, .iface 64 (.agg #[.int .i64 a]), .iface 64 (.agg #[.int .i64 b])], .agg #[.int .i64 a]] W fun e w' => e = .returned (.iface 64 (.agg #[.int .i64 (apN op a b)])) ∧ Below W.heap.size W w') := fun W => right_num op a b _ _ W
  go_enter Tryd.func18, Tryd.ntmps18
  go_wp2_with fail
  refine (HA.out _).mono ?_
  rintro x w1 ⟨rfl, hb1⟩
  go_wp2_with fail
  go_ret
  exact ⟨rfl, (((Below.refl _ _).alloc (Nat.le_refl _) _).alloc (by simp) _).trans (hb1.mono (by simp; omega))⟩

set_option maxRecDepth 100000 in
set_option maxHeartbeats 2000000 in
theorem fold_bin_no (op a : Int) (u : TypeId) (yv : Value) (hu : u ≠ 64) (w : World) :
    Calls Tryd.prog 18 #[.iface 67 (.agg #[.int .i64 op, .iface 64 (.agg #[.int .i64 a]), .iface u yv])] w fun e w' => e = .returned (.iface 67 (.agg #[.int .i64 op, .iface 64 (.agg #[.int .i64 a]), .iface u yv])) ∧ Below w.heap.size w w' := by
  have n1 := as_un_no
  have n2 := as_bin_no
  have n3 := as_and_no
  have n4 := as_or_no
  have n5 := as_num_no
  have y1 := as_un_yes
  have y2 := as_bin_yes
  have y3 := as_and_yes
  have y4 := as_or_yes
  have y5 := as_num_yes
  have HA : Hid (∀ W, Calls Tryd.prog 38 #[.agg #[.int .i64 op, .iface 64 (.agg #[.int .i64 a]), .iface u yv], .agg #[.int .i64 a]] W fun e w' => e = .returned (.iface 67 (.agg #[.int .i64 op, .iface 64 (.agg #[.int .i64 a]), .iface u yv])) ∧ Below W.heap.size W w') := fun W => right_no op a _ u _ yv hu W
  go_enter Tryd.func18, Tryd.ntmps18
  go_wp2_with fail
  refine (HA.out _).mono ?_
  rintro x w1 ⟨rfl, hb1⟩
  go_wp2_with fail
  go_ret
  exact ⟨rfl, (((Below.refl _ _).alloc (Nat.le_refl _) _).alloc (by simp) _).trans (hb1.mono (by simp; omega))⟩

set_option maxRecDepth 100000 in
set_option maxHeartbeats 2000000 in
theorem fold_bin_x (op : Int) (u ty : TypeId) (xv yv : Value) (hu : u ≠ 64) (w : World) :
    Calls Tryd.prog 18 #[.iface 67 (.agg #[.int .i64 op, .iface u xv, .iface ty yv])] w fun e w' => e = .returned (.iface 67 (.agg #[.int .i64 op, .iface u xv, .iface ty yv])) ∧ Below w.heap.size w w' := by
  have n1 := as_un_no
  have n2 := as_bin_no
  have n3 := as_and_no
  have n4 := as_or_no
  have n5 := as_num_no
  have y1 := as_un_yes
  have y2 := as_bin_yes
  have y3 := as_and_yes
  have y4 := as_or_yes
  have y5 := as_num_yes
  go_enter Tryd.func18, Tryd.ntmps18
  go_wp2_with fail
  go_ret
  exact ⟨rfl, ((Below.refl _ _).alloc (Nat.le_refl _) _).alloc (by simp) _⟩

set_option maxRecDepth 100000 in
set_option maxHeartbeats 2000000 in
theorem fold_and_x (u ty : TypeId) (xv yv : Value) (hu : u ≠ 64) (w : World) :
    Calls Tryd.prog 18 #[.iface 70 (.agg #[.iface u xv, .iface ty yv])] w fun e w' => e = .returned (.iface 70 (.agg #[.iface u xv, .iface ty yv])) ∧ Below w.heap.size w w' := by
  have n1 := as_un_no
  have n2 := as_bin_no
  have n3 := as_and_no
  have n4 := as_or_no
  have n5 := as_num_no
  have y1 := as_un_yes
  have y2 := as_bin_yes
  have y3 := as_and_yes
  have y4 := as_or_yes
  have y5 := as_num_yes
  go_enter Tryd.func18, Tryd.ntmps18
  go_wp2_with fail
  go_ret
  exact ⟨rfl, ((Below.refl _ _).alloc (Nat.le_refl _) _).alloc (by simp) _⟩

set_option maxRecDepth 100000 in
set_option maxHeartbeats 2000000 in
theorem fold_or_x (u ty : TypeId) (xv yv : Value) (hu : u ≠ 64) (w : World) :
    Calls Tryd.prog 18 #[.iface 72 (.agg #[.iface u xv, .iface ty yv])] w fun e w' => e = .returned (.iface 72 (.agg #[.iface u xv, .iface ty yv])) ∧ Below w.heap.size w w' := by
  have n1 := as_un_no
  have n2 := as_bin_no
  have n3 := as_and_no
  have n4 := as_or_no
  have n5 := as_num_no
  have y1 := as_un_yes
  have y2 := as_bin_yes
  have y3 := as_and_yes
  have y4 := as_or_yes
  have y5 := as_num_yes
  go_enter Tryd.func18, Tryd.ntmps18
  go_wp2_with fail
  go_ret
  exact ⟨rfl, ((Below.refl _ _).alloc (Nat.le_refl _) _).alloc (by simp) _⟩

set_option maxRecDepth 100000 in
set_option maxHeartbeats 2000000 in
theorem fold_else (u : TypeId) (xv : Value) (h1 : u ≠ 62) (h2 : u ≠ 67) (h3 : u ≠ 70) (h4 : u ≠ 72) (w : World) :
    Calls Tryd.prog 18 #[.iface u xv] w fun e w' => e = .returned (.iface u xv) ∧ Below w.heap.size w w' := by
  have n1 := fun W => as_un_no W u xv h1
  have n2 := fun W => as_bin_no W u xv h2
  have n3 := fun W => as_and_no W u xv h3
  have n4 := fun W => as_or_no W u xv h4
  go_enter Tryd.func18, Tryd.ntmps18
  go_wp2_with fail
  go_ret
  exact ⟨rfl, Below.refl _ _⟩

end Go.Proofs.YtbmcnjjhgjphmaaDoor
