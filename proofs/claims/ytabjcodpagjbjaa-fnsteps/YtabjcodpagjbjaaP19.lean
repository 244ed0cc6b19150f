import Derived.Test.YtabjcodpagjbjaaP18
namespace Go.Proofs.Ytabjcodpagjbjaa
open Go.RowKit
set_option linter.unusedVariables false
set_option linter.unusedSimpArgs false
theorem tabH (op : Int) (h : 18 ≤ op ∧ op ≤ 20) : tabA[op.toNat]? = some (.iface 94 (.agg #[.int .u32 (oc op), .int .u32 (f3 op), .int .u32 (f7 op)])) := by
  obtain ⟨n, rfl⟩ : ∃ n : Nat, op = n := ⟨op.toNat, by omega⟩
  have h1 : n = 18 ∨ n = 19 ∨ n = 20 := by omega
  rcases h1 with rfl | rfl | rfl
  all_goals rfl
theorem mwH (a b c : Int) (W : World) : (method 244 94 (.agg #[.int .u32 a, .int .u32 b, .int .u32 c]) "loop.example/s01725/impl.word").run Try.prog W = .ok (128, .agg #[.int .u32 a, .int .u32 b, .int .u32 c]) W := by kernel_rfl
theorem miH (a b c : Int) (W : World) : (method 244 94 (.agg #[.int .u32 a, .int .u32 b, .int .u32 c]) "loop.example/s01725/impl.inst").run Try.prog W = .ok (127, .agg #[.int .u32 a, .int .u32 b, .int .u32 c]) W := by kernel_rfl
theorem tabS (op : Int) (h : op = 11) : tabA[op.toNat]? = some (.iface 92 (.agg #[.int .u32 (oc op), .int .u32 (f3 op)])) := by
  subst h
  rfl
theorem mwS (a b : Int) (W : World) : (method 244 92 (.agg #[.int .u32 a, .int .u32 b]) "loop.example/s01725/impl.word").run Try.prog W = .ok (126, .agg #[.int .u32 a, .int .u32 b]) W := by kernel_rfl
theorem miS (a b : Int) (W : World) : (method 244 92 (.agg #[.int .u32 a, .int .u32 b]) "loop.example/s01725/impl.inst").run Try.prog W = .ok (125, .agg #[.int .u32 a, .int .u32 b]) W := by kernel_rfl
end Go.Proofs.Ytabjcodpagjbjaa

namespace Go.Proofs.Ytabjcodpagjbjaa
open Go.RowKit
set_option linter.unusedVariables false
set_option linter.unusedSimpArgs false
theorem tabB (op : Int) (h : 4 ≤ op ∧ op ≤ 9) : tabA[op.toNat]? = some (.iface 91 (.agg #[.int .u32 (oc op), .int .u32 (f3 op)])) := by
  obtain ⟨n, rfl⟩ : ∃ n : Nat, op = n := ⟨op.toNat, by omega⟩
  have h1 : n = 4 ∨ n = 5 ∨ n = 6 ∨ n = 7 ∨ n = 8 ∨ n = 9 := by omega
  rcases h1 with rfl | rfl | rfl | rfl | rfl | rfl
  all_goals rfl
theorem mwB (a b : Int) (W : World) : (method 244 91 (.agg #[.int .u32 a, .int .u32 b]) "loop.example/s01725/impl.word").run Try.prog W = .ok (122, .agg #[.int .u32 a, .int .u32 b]) W := by kernel_rfl
theorem miB (a b : Int) (W : World) : (method 244 91 (.agg #[.int .u32 a, .int .u32 b]) "loop.example/s01725/impl.inst").run Try.prog W = .ok (121, .agg #[.int .u32 a, .int .u32 b]) W := by kernel_rfl
theorem tabU (op : Int) (h : op = 1) : tabA[op.toNat]? = some (.iface 87 (.agg #[.int .u32 (oc op)])) := by
  subst h
  rfl
theorem mwU (a : Int) (W : World) : (method 244 87 (.agg #[.int .u32 a]) "loop.example/s01725/impl.word").run Try.prog W = .ok (109, .agg #[.int .u32 a]) W := by kernel_rfl
theorem miU (a : Int) (W : World) : (method 244 87 (.agg #[.int .u32 a]) "loop.example/s01725/impl.inst").run Try.prog W = .ok (108, .agg #[.int .u32 a]) W := by kernel_rfl
end Go.Proofs.Ytabjcodpagjbjaa

namespace Go.Proofs.Ytabjcodpagjbjaa
open Go.RowKit
set_option linter.unusedVariables false
set_option linter.unusedSimpArgs false
theorem tabJ (op : Int) (h : op = 2) : tabA[op.toNat]? = some (.iface 88 (.agg #[.int .u32 (oc op)])) := by
  subst h
  rfl
theorem mwJ (a : Int) (W : World) : (method 244 88 (.agg #[.int .u32 a]) "loop.example/s01725/impl.word").run Try.prog W = .ok (114, .agg #[.int .u32 a]) W := by kernel_rfl
theorem miJ (a : Int) (W : World) : (method 244 88 (.agg #[.int .u32 a]) "loop.example/s01725/impl.inst").run Try.prog W = .ok (113, .agg #[.int .u32 a]) W := by kernel_rfl
theorem tabE (op : Int) (h : op = 34) : tabA[op.toNat]? = some (.iface 96 (.agg #[.int .u32 (oc op)])) := by
  subst h
  rfl
theorem mwE (a : Int) (W : World) : (method 244 96 (.agg #[.int .u32 a]) "loop.example/s01725/impl.word").run Try.prog W = .ok (132, .agg #[.int .u32 a]) W := by kernel_rfl
theorem miE (a : Int) (W : World) : (method 244 96 (.agg #[.int .u32 a]) "loop.example/s01725/impl.inst").run Try.prog W = .ok (131, .agg #[.int .u32 a]) W := by kernel_rfl
end Go.Proofs.Ytabjcodpagjbjaa
