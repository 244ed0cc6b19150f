import Derived.Test.YtbmcnjjhgjphmaaDoorRows
import Derived.WalkKit
import Derived.WalkSpells
namespace Go.Proofs.YtbmcnjjhgjphmaaDoor
open Go.RowKit
set_option linter.unusedVariables false

theorem as_num_yes (W : World) (v : Value) : (Instr.typeAssert (.iface 64 v) 38 64 true).run Tryd.prog W = .ok (.tuple #[v, .bool true]) W := by kernel_rfl
theorem as_num_no (W : World) (u : TypeId) (v : Value) (h : u ≠ 64) : (Instr.typeAssert (.iface u v) 38 64 true).run Tryd.prog W = .ok (.tuple #[.agg #[.int .i64 0], .bool false]) W := by
  have e : (Instr.typeAssert (.iface u v) 38 64 true).run Tryd.prog W = (if u = 64 then (pure (Value.tuple #[v, .bool true]) : Sem Value) else (do pure (Value.tuple #[← zeroValue 64, .bool false]))).run Tryd.prog W := by kernel_rfl
  rw [e, if_neg h]
  show _ = _; kernel_rfl
theorem as_var_yes (W : World) (v : Value) : (Instr.typeAssert (.iface 84 v) 38 84 true).run Tryd.prog W = .ok (.tuple #[v, .bool true]) W := by kernel_rfl
theorem as_var_no (W : World) (u : TypeId) (v : Value) (h : u ≠ 84) : (Instr.typeAssert (.iface u v) 38 84 true).run Tryd.prog W = .ok (.tuple #[.agg #[.string ⟨#[]⟩], .bool false]) W := by
  have e : (Instr.typeAssert (.iface u v) 38 84 true).run Tryd.prog W = (if u = 84 then (pure (Value.tuple #[v, .bool true]) : Sem Value) else (do pure (Value.tuple #[← zeroValue 84, .bool false]))).run Tryd.prog W := by kernel_rfl
  rw [e, if_neg h]
  show _ = _; kernel_rfl
theorem as_index_yes (W : World) (v : Value) : (Instr.typeAssert (.iface 86 v) 38 86 true).run Tryd.prog W = .ok (.tuple #[v, .bool true]) W := by kernel_rfl
theorem as_index_no (W : World) (u : TypeId) (v : Value) (h : u ≠ 86) : (Instr.typeAssert (.iface u v) 38 86 true).run Tryd.prog W = .ok (.tuple #[.agg #[.string ⟨#[]⟩, .nilIface], .bool false]) W := by
  have e : (Instr.typeAssert (.iface u v) 38 86 true).run Tryd.prog W = (if u = 86 then (pure (Value.tuple #[v, .bool true]) : Sem Value) else (do pure (Value.tuple #[← zeroValue 86, .bool false]))).run Tryd.prog W := by kernel_rfl
  rw [e, if_neg h]
  show _ = _; kernel_rfl
theorem as_call_yes (W : World) (v : Value) : (Instr.typeAssert (.iface 88 v) 38 88 true).run Tryd.prog W = .ok (.tuple #[v, .bool true]) W := by kernel_rfl
theorem as_call_no (W : World) (u : TypeId) (v : Value) (h : u ≠ 88) : (Instr.typeAssert (.iface u v) 38 88 true).run Tryd.prog W = .ok (.tuple #[.agg #[.string ⟨#[]⟩, .slice none 0 0], .bool false]) W := by
  have e : (Instr.typeAssert (.iface u v) 38 88 true).run Tryd.prog W = (if u = 88 then (pure (Value.tuple #[v, .bool true]) : Sem Value) else (do pure (Value.tuple #[← zeroValue 88, .bool false]))).run Tryd.prog W := by kernel_rfl
  rw [e, if_neg h]
  show _ = _; kernel_rfl
theorem as_un_yes (W : World) (v : Value) : (Instr.typeAssert (.iface 62 v) 38 62 true).run Tryd.prog W = .ok (.tuple #[v, .bool true]) W := by kernel_rfl
theorem as_un_no (W : World) (u : TypeId) (v : Value) (h : u ≠ 62) : (Instr.typeAssert (.iface u v) 38 62 true).run Tryd.prog W = .ok (.tuple #[.agg #[.int .i64 0, .nilIface], .bool false]) W := by
  have e : (Instr.typeAssert (.iface u v) 38 62 true).run Tryd.prog W = (if u = 62 then (pure (Value.tuple #[v, .bool true]) : Sem Value) else (do pure (Value.tuple #[← zeroValue 62, .bool false]))).run Tryd.prog W := by kernel_rfl
  rw [e, if_neg h]
  show _ = _; kernel_rfl
theorem as_bin_yes (W : World) (v : Value) : (Instr.typeAssert (.iface 67 v) 38 67 true).run Tryd.prog W = .ok (.tuple #[v, .bool true]) W := by kernel_rfl
theorem as_bin_no (W : World) (u : TypeId) (v : Value) (h : u ≠ 67) : (Instr.typeAssert (.iface u v) 38 67 true).run Tryd.prog W = .ok (.tuple #[.agg #[.int .i64 0, .nilIface, .nilIface], .bool false]) W := by
  have e : (Instr.typeAssert (.iface u v) 38 67 true).run Tryd.prog W = (if u = 67 then (pure (Value.tuple #[v, .bool true]) : Sem Value) else (do pure (Value.tuple #[← zeroValue 67, .bool false]))).run Tryd.prog W := by kernel_rfl
  rw [e, if_neg h]
  show _ = _; kernel_rfl
theorem as_and_yes (W : World) (v : Value) : (Instr.typeAssert (.iface 70 v) 38 70 true).run Tryd.prog W = .ok (.tuple #[v, .bool true]) W := by kernel_rfl
theorem as_and_no (W : World) (u : TypeId) (v : Value) (h : u ≠ 70) : (Instr.typeAssert (.iface u v) 38 70 true).run Tryd.prog W = .ok (.tuple #[.agg #[.nilIface, .nilIface], .bool false]) W := by
  have e : (Instr.typeAssert (.iface u v) 38 70 true).run Tryd.prog W = (if u = 70 then (pure (Value.tuple #[v, .bool true]) : Sem Value) else (do pure (Value.tuple #[← zeroValue 70, .bool false]))).run Tryd.prog W := by kernel_rfl
  rw [e, if_neg h]
  show _ = _; kernel_rfl
theorem as_or_yes (W : World) (v : Value) : (Instr.typeAssert (.iface 72 v) 38 72 true).run Tryd.prog W = .ok (.tuple #[v, .bool true]) W := by kernel_rfl
theorem as_or_no (W : World) (u : TypeId) (v : Value) (h : u ≠ 72) : (Instr.typeAssert (.iface u v) 38 72 true).run Tryd.prog W = .ok (.tuple #[.agg #[.nilIface, .nilIface], .bool false]) W := by
  have e : (Instr.typeAssert (.iface u v) 38 72 true).run Tryd.prog W = (if u = 72 then (pure (Value.tuple #[v, .bool true]) : Sem Value) else (do pure (Value.tuple #[← zeroValue 72, .bool false]))).run Tryd.prog W := by kernel_rfl
  rw [e, if_neg h]
  show _ = _; kernel_rfl

end Go.Proofs.YtbmcnjjhgjphmaaDoor
