import Derived.Test.YtbmcnjjhgjphmaaDoorFL
import Derived.Test.YtbmcnjjhgjphmaaDoorTA
namespace Go.Proofs.YtbmcnjjhgjphmaaDoor
open Go.RowKit
set_option linter.unusedVariables false
set_option linter.unusedSimpArgs false

def encA (n : Nd) : Value := .agg #[.int .i64 n.kind, .int .i64 n.val, .string n.name]

set_option maxRecDepth 100000 in
set_option maxHeartbeats 2000000 in
theorem plain_num (v : Int) (w : World) : Calls Tryd.prog 32 #[.iface 64 (.agg #[.int .i64 v])] w fun e w' => e = .returned (encA ⟨1, v, ⟨#[]⟩⟩) ∧ Below w.heap.size w w' := by
  have y := as_num_yes
  have b0 : Below w.heap.size w w := Below.refl _ _
  unfold encA
  go_enter Tryd.func32, Tryd.ntmps32
  go_wp2_with fail
  try simp only [Exit.inBlock, Exit.then]
  refine bodyPost_ret (by simp [results, Tryd.results32, go_sem]; try rfl) rfl ?_
  exact ⟨rfl, (b0.alloc (Nat.le_refl _) _).alloc (by simp) _⟩

set_option maxRecDepth 100000 in
set_option maxHeartbeats 2000000 in
theorem plain_var (s : ByteArray) (w : World) : Calls Tryd.prog 32 #[.iface 84 (.agg #[.string s])] w fun e w' => e = .returned (encA ⟨2, 0, s⟩) ∧ Below w.heap.size w w' := by
  have n1 := fun W v => as_num_no W 84 v (by decide)
  have y := as_var_yes
  have b0 : Below w.heap.size w w := Below.refl _ _
  unfold encA
  go_enter Tryd.func32, Tryd.ntmps32
  go_wp2_with fail
  try simp only [Exit.inBlock, Exit.then]
  refine bodyPost_ret (by simp [results, Tryd.results32, go_sem]; try rfl) rfl ?_
  exact ⟨rfl, (b0.alloc (Nat.le_refl _) _).alloc (by simp) _⟩

set_option maxRecDepth 100000 in
set_option maxHeartbeats 2000000 in
theorem plain_index (s : ByteArray) (tx : TypeId) (x : Value) (w : World) : Calls Tryd.prog 32 #[.iface 86 (.agg #[.string s, .iface tx x])] w fun e w' => e = .returned (encA ⟨3, 0, s⟩) ∧ Below w.heap.size w w' := by
  have n1 := fun W v => as_num_no W 86 v (by decide)
  have n2 := fun W v => as_var_no W 86 v (by decide)
  have y := as_index_yes
  have b0 : Below w.heap.size w w := Below.refl _ _
  unfold encA
  go_enter Tryd.func32, Tryd.ntmps32
  go_wp2_with fail
  try simp only [Exit.inBlock, Exit.then]
  refine bodyPost_ret (by simp [results, Tryd.results32, go_sem]; try rfl) rfl ?_
  exact ⟨rfl, (b0.alloc (Nat.le_refl _) _).alloc (by simp) _⟩

set_option maxRecDepth 100000 in
set_option maxHeartbeats 2000000 in
theorem plain_call (s : ByteArray) (a : Option Addr) (A cp : Nat) (w : World) : Calls Tryd.prog 32 #[.iface 88 (.agg #[.string s, .slice a A cp])] w fun e w' => e = .returned (encA ⟨4, A, s⟩) ∧ Below w.heap.size w w' := by
  have n1 := fun W v => as_num_no W 88 v (by decide)
  have n2 := fun W v => as_var_no W 88 v (by decide)
  have n3 := fun W v => as_index_no W 88 v (by decide)
  have y := as_call_yes
  have b0 : Below w.heap.size w w := Below.refl _ _
  unfold encA
  go_enter Tryd.func32, Tryd.ntmps32
  go_wp2_with fail
  try simp only [Exit.inBlock, Exit.then]
  refine bodyPost_ret (by simp [results, Tryd.results32, go_sem]; try rfl) rfl ?_
  exact ⟨rfl, (b0.alloc (Nat.le_refl _) _).alloc (by simp) _⟩

set_option maxRecDepth 100000 in
set_option maxHeartbeats 2000000 in
theorem plain_inn  (w : World) : Calls Tryd.prog 32 #[.iface 91 (.agg #[])] w fun e w' => e = .returned (encA ⟨5, 0, ⟨#[]⟩⟩) ∧ Below w.heap.size w w' := by
  have n1 := fun W v => as_num_no W 91 v (by decide)
  have n2 := fun W v => as_var_no W 91 v (by decide)
  have n3 := fun W v => as_index_no W 91 v (by decide)
  have n4 := fun W v => as_call_no W 91 v (by decide)
  have n5 := fun W v => as_un_no W 91 v (by decide)
  have n6 := fun W v => as_bin_no W 91 v (by decide)
  have n7 := fun W v => as_and_no W 91 v (by decide)
  have n8 := fun W v => as_or_no W 91 v (by decide)
  have b0 : Below w.heap.size w w := Below.refl _ _
  unfold encA
  go_enter Tryd.func32, Tryd.ntmps32
  go_wp2_with fail
  try simp only [Exit.inBlock, Exit.then]
  refine bodyPost_ret (by simp [results, Tryd.results32, go_sem]; try rfl) rfl ?_
  exact ⟨rfl, b0.alloc (Nat.le_refl _) _⟩

set_option maxRecDepth 100000 in
set_option maxHeartbeats 2000000 in
theorem plain_un (v : Int) (tx : TypeId) (x : Value) (w : World) : Calls Tryd.prog 32 #[.iface 62 (.agg #[.int .i64 v, .iface tx x])] w fun e w' => e = .returned (encA ⟨6, v, ⟨#[]⟩⟩) ∧ Below w.heap.size w w' := by
  have n1 := fun W v => as_num_no W 62 v (by decide)
  have n2 := fun W v => as_var_no W 62 v (by decide)
  have n3 := fun W v => as_index_no W 62 v (by decide)
  have n4 := fun W v => as_call_no W 62 v (by decide)
  have y := as_un_yes
  have b0 : Below w.heap.size w w := Below.refl _ _
  unfold encA
  go_enter Tryd.func32, Tryd.ntmps32
  go_wp2_with fail
  try simp only [Exit.inBlock, Exit.then]
  refine bodyPost_ret (by simp [results, Tryd.results32, go_sem]; try rfl) rfl ?_
  exact ⟨rfl, (b0.alloc (Nat.le_refl _) _).alloc (by simp) _⟩

set_option maxRecDepth 100000 in
set_option maxHeartbeats 2000000 in
theorem plain_bin (v : Int) (tx : TypeId) (x : Value) (ty : TypeId) (y : Value) (w : World) : Calls Tryd.prog 32 #[.iface 67 (.agg #[.int .i64 v, .iface tx x, .iface ty y])] w fun e w' => e = .returned (encA ⟨7, v, ⟨#[]⟩⟩) ∧ Below w.heap.size w w' := by
  have n1 := fun W v => as_num_no W 67 v (by decide)
  have n2 := fun W v => as_var_no W 67 v (by decide)
  have n3 := fun W v => as_index_no W 67 v (by decide)
  have n4 := fun W v => as_call_no W 67 v (by decide)
  have n5 := fun W v => as_un_no W 67 v (by decide)
  have y := as_bin_yes
  have b0 : Below w.heap.size w w := Below.refl _ _
  unfold encA
  go_enter Tryd.func32, Tryd.ntmps32
  go_wp2_with fail
  try simp only [Exit.inBlock, Exit.then]
  refine bodyPost_ret (by simp [results, Tryd.results32, go_sem]; try rfl) rfl ?_
  exact ⟨rfl, (b0.alloc (Nat.le_refl _) _).alloc (by simp) _⟩

set_option maxRecDepth 100000 in
set_option maxHeartbeats 2000000 in
theorem plain_and (tx : TypeId) (x : Value) (ty : TypeId) (y : Value) (w : World) : Calls Tryd.prog 32 #[.iface 70 (.agg #[.iface tx x, .iface ty y])] w fun e w' => e = .returned (encA ⟨8, 0, ⟨#[]⟩⟩) ∧ Below w.heap.size w w' := by
  have n1 := fun W v => as_num_no W 70 v (by decide)
  have n2 := fun W v => as_var_no W 70 v (by decide)
  have n3 := fun W v => as_index_no W 70 v (by decide)
  have n4 := fun W v => as_call_no W 70 v (by decide)
  have n5 := fun W v => as_un_no W 70 v (by decide)
  have n6 := fun W v => as_bin_no W 70 v (by decide)
  have y := as_and_yes
  have b0 : Below w.heap.size w w := Below.refl _ _
  unfold encA
  go_enter Tryd.func32, Tryd.ntmps32
  go_wp2_with fail
  try simp only [Exit.inBlock, Exit.then]
  refine bodyPost_ret (by simp [results, Tryd.results32, go_sem]; try rfl) rfl ?_
  exact ⟨rfl, (b0.alloc (Nat.le_refl _) _).alloc (by simp) _⟩

set_option maxRecDepth 100000 in
set_option maxHeartbeats 2000000 in
theorem plain_or (tx : TypeId) (x : Value) (ty : TypeId) (y : Value) (w : World) : Calls Tryd.prog 32 #[.iface 72 (.agg #[.iface tx x, .iface ty y])] w fun e w' => e = .returned (encA ⟨9, 0, ⟨#[]⟩⟩) ∧ Below w.heap.size w w' := by
  have n1 := fun W v => as_num_no W 72 v (by decide)
  have n2 := fun W v => as_var_no W 72 v (by decide)
  have n3 := fun W v => as_index_no W 72 v (by decide)
  have n4 := fun W v => as_call_no W 72 v (by decide)
  have n5 := fun W v => as_un_no W 72 v (by decide)
  have n6 := fun W v => as_bin_no W 72 v (by decide)
  have n7 := fun W v => as_and_no W 72 v (by decide)
  have y := as_or_yes
  have b0 : Below w.heap.size w w := Below.refl _ _
  unfold encA
  go_enter Tryd.func32, Tryd.ntmps32
  go_wp2_with fail
  try simp only [Exit.inBlock, Exit.then]
  refine bodyPost_ret (by simp [results, Tryd.results32, go_sem]; try rfl) rfl ?_
  exact ⟨rfl, (b0.alloc (Nat.le_refl _) _).alloc (by simp) _⟩

theorem Src.nil (w : World) : Src w (.slice none 0 0) [] := ⟨_, _, rfl, fun _ => rfl, fun ad had => by cases had⟩
theorem Src.lit2 (w : World) (x y : Value) (t : TypeId) : Src (w.alloc (.cells #[x, y] t)) (.slice (some ⟨w.heap.size, 0, none⟩) 2 2) [x, y] := by
  refine ⟨_, _, rfl, fun h => (by cases h), fun ad had j z hz => ?_⟩
  simp only [Option.some.injEq] at had
  subst had
  cases j with
  | zero => simp at hz; subst hz; simp [Addr.add]
  | succ j => cases j with
    | zero => simp at hz; subst hz; simp [Addr.add]
    | succ j => simp at hz

set_option maxRecDepth 100000 in
set_option maxHeartbeats 2000000 in
theorem ops_num (v : Int) (w : World) : Calls Tryd.prog 78 #[.agg #[.int .i64 v]] w fun e w' => ∃ sl, e = .returned sl ∧ Src w' sl [] ∧ Below w.heap.size w w' := by
  go_enter Tryd.func78, Tryd.ntmps78
  go_wp2_with fail
  go_ret
  exact ⟨_, rfl, Src.nil _, (Below.refl _ _).alloc (Nat.le_refl _) _⟩

set_option maxRecDepth 100000 in
set_option maxHeartbeats 2000000 in
theorem ops_var (s : ByteArray) (w : World) : Calls Tryd.prog 82 #[.agg #[.string s]] w fun e w' => ∃ sl, e = .returned sl ∧ Src w' sl [] ∧ Below w.heap.size w w' := by
  go_enter Tryd.func82, Tryd.ntmps82
  go_wp2_with fail
  go_ret
  exact ⟨_, rfl, Src.nil _, (Below.refl _ _).alloc (Nat.le_refl _) _⟩

set_option maxRecDepth 100000 in
set_option maxHeartbeats 2000000 in
theorem ops_index (s : ByteArray) (tx : TypeId) (x : Value) (w : World) : Calls Tryd.prog 83 #[.agg #[.string s, .iface tx x]] w fun e w' => ∃ sl, e = .returned sl ∧ Src w' sl [.iface tx x] ∧ Below w.heap.size w w' := by
  go_enter Tryd.func83, Tryd.ntmps83
  go_wp2_with fail
  go_ret
  have HS := Src.lit (w.alloc (.cells #[.string s, .iface tx x] 86)) (.iface tx x) 38
  simp only [World.size_alloc] at HS
  exact ⟨_, rfl, HS, ((Below.refl _ _).alloc (Nat.le_refl _) _).alloc (by simp) _⟩

set_option maxRecDepth 100000 in
set_option maxHeartbeats 2000000 in
theorem ops_inn  (w : World) : Calls Tryd.prog 85 #[.agg #[]] w fun e w' => ∃ sl, e = .returned sl ∧ Src w' sl [] ∧ Below w.heap.size w w' := by
  go_enter Tryd.func85, Tryd.ntmps85
  go_wp2_with fail
  go_ret
  exact ⟨_, rfl, Src.nil _, (Below.refl _ _).alloc (Nat.le_refl _) _⟩

set_option maxRecDepth 100000 in
set_option maxHeartbeats 2000000 in
theorem ops_un (v : Int) (tx : TypeId) (x : Value) (w : World) : Calls Tryd.prog 77 #[.agg #[.int .i64 v, .iface tx x]] w fun e w' => ∃ sl, e = .returned sl ∧ Src w' sl [.iface tx x] ∧ Below w.heap.size w w' := by
  go_enter Tryd.func77, Tryd.ntmps77
  go_wp2_with fail
  go_ret
  have HS := Src.lit (w.alloc (.cells #[.int .i64 v, .iface tx x] 62)) (.iface tx x) 38
  simp only [World.size_alloc] at HS
  exact ⟨_, rfl, HS, ((Below.refl _ _).alloc (Nat.le_refl _) _).alloc (by simp) _⟩

set_option maxRecDepth 100000 in
set_option maxHeartbeats 2000000 in
theorem ops_bin (v : Int) (tx : TypeId) (x : Value) (ty : TypeId) (y : Value) (w : World) : Calls Tryd.prog 79 #[.agg #[.int .i64 v, .iface tx x, .iface ty y]] w fun e w' => ∃ sl, e = .returned sl ∧ Src w' sl [.iface tx x, .iface ty y] ∧ Below w.heap.size w w' := by
  go_enter Tryd.func79, Tryd.ntmps79
  go_wp2_with fail
  go_ret
  have HS := Src.lit2 (w.alloc (.cells #[.int .i64 v, .iface tx x, .iface ty y] 67)) (.iface tx x) (.iface ty y) 38
  simp only [World.size_alloc] at HS
  exact ⟨_, rfl, HS, ((Below.refl _ _).alloc (Nat.le_refl _) _).alloc (by simp) _⟩

set_option maxRecDepth 100000 in
set_option maxHeartbeats 2000000 in
theorem ops_and (tx : TypeId) (x : Value) (ty : TypeId) (y : Value) (w : World) : Calls Tryd.prog 80 #[.agg #[.iface tx x, .iface ty y]] w fun e w' => ∃ sl, e = .returned sl ∧ Src w' sl [.iface tx x, .iface ty y] ∧ Below w.heap.size w w' := by
  go_enter Tryd.func80, Tryd.ntmps80
  go_wp2_with fail
  go_ret
  have HS := Src.lit2 (w.alloc (.cells #[.iface tx x, .iface ty y] 70)) (.iface tx x) (.iface ty y) 38
  simp only [World.size_alloc] at HS
  exact ⟨_, rfl, HS, ((Below.refl _ _).alloc (Nat.le_refl _) _).alloc (by simp) _⟩

set_option maxRecDepth 100000 in
set_option maxHeartbeats 2000000 in
theorem ops_or (tx : TypeId) (x : Value) (ty : TypeId) (y : Value) (w : World) : Calls Tryd.prog 81 #[.agg #[.iface tx x, .iface ty y]] w fun e w' => ∃ sl, e = .returned sl ∧ Src w' sl [.iface tx x, .iface ty y] ∧ Below w.heap.size w w' := by
  go_enter Tryd.func81, Tryd.ntmps81
  go_wp2_with fail
  go_ret
  have HS := Src.lit2 (w.alloc (.cells #[.iface tx x, .iface ty y] 72)) (.iface tx x) (.iface ty y) 38
  simp only [World.size_alloc] at HS
  exact ⟨_, rfl, HS, ((Below.refl _ _).alloc (Nat.le_refl _) _).alloc (by simp) _⟩

set_option maxRecDepth 100000 in
set_option maxHeartbeats 2000000 in
theorem ops_call (s : ByteArray) (a : Option Addr) (A cp : Nat) (w : World) : Calls Tryd.prog 84 #[.agg #[.string s, .slice a A cp]] w fun e w' => e = .returned (.slice a A cp) ∧ Below w.heap.size w w' := by
  go_enter Tryd.func84, Tryd.ntmps84
  go_wp2_with fail
  go_ret
  exact ⟨rfl, (Below.refl _ _).alloc (Nat.le_refl _) _⟩

end Go.Proofs.YtbmcnjjhgjphmaaDoor
