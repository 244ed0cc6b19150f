import Derived.Test.YtolkpkklinoegaaDoorRows
import Derived.WalkKit
import Derived.WalkSpells
import Derived.Test.YtolkpkklinoegaaDoorM00
namespace Go.Proofs.YtolkpkklinoegaaDoor
set_option linter.unusedVariables false
set_option linter.unusedSimpArgs false
set_option maxRecDepth 100000
set_option maxHeartbeats 16000000
section
open Go.RowKit
theorem as_num_yes (W : World) (v : Value) : (Instr.typeAssert (.iface 91 v) 58 91 true).run Tryd.prog W = .ok (.tuple #[v, .bool true]) W := by kernel_rfl
theorem as_num_no (W : World) (u : TypeId) (v : Value) (h : u ≠ 91) : (Instr.typeAssert (.iface u v) 58 91 true).run Tryd.prog W = .ok (.tuple #[.agg #[.int .i64 0], .bool false]) W := by
 have e : (Instr.typeAssert (.iface u v) 58 91 true).run Tryd.prog W = (if u = 91 then (pure (Value.tuple #[v, .bool true]) : Sem Value) else (do pure (Value.tuple #[← zeroValue 91, .bool false]))).run Tryd.prog W := by kernel_rfl
 rw [e, if_neg h]
 show _ = _; kernel_rfl
theorem as_var_yes (W : World) (v : Value) : (Instr.typeAssert (.iface 121 v) 58 121 true).run Tryd.prog W = .ok (.tuple #[v, .bool true]) W := by kernel_rfl
theorem as_var_no (W : World) (u : TypeId) (v : Value) (h : u ≠ 121) : (Instr.typeAssert (.iface u v) 58 121 true).run Tryd.prog W = .ok (.tuple #[.agg #[.string ⟨#[]⟩], .bool false]) W := by
 have e : (Instr.typeAssert (.iface u v) 58 121 true).run Tryd.prog W = (if u = 121 then (pure (Value.tuple #[v, .bool true]) : Sem Value) else (do pure (Value.tuple #[← zeroValue 121, .bool false]))).run Tryd.prog W := by kernel_rfl
 rw [e, if_neg h]
 show _ = _; kernel_rfl
theorem as_index_yes (W : World) (v : Value) : (Instr.typeAssert (.iface 123 v) 58 123 true).run Tryd.prog W = .ok (.tuple #[v, .bool true]) W := by kernel_rfl
theorem as_index_no (W : World) (u : TypeId) (v : Value) (h : u ≠ 123) : (Instr.typeAssert (.iface u v) 58 123 true).run Tryd.prog W = .ok (.tuple #[.agg #[.string ⟨#[]⟩, .nilIface], .bool false]) W := by
 have e : (Instr.typeAssert (.iface u v) 58 123 true).run Tryd.prog W = (if u = 123 then (pure (Value.tuple #[v, .bool true]) : Sem Value) else (do pure (Value.tuple #[← zeroValue 123, .bool false]))).run Tryd.prog W := by kernel_rfl
 rw [e, if_neg h]
 show _ = _; kernel_rfl
theorem as_call_yes (W : World) (v : Value) : (Instr.typeAssert (.iface 125 v) 58 125 true).run Tryd.prog W = .ok (.tuple #[v, .bool true]) W := by kernel_rfl
theorem as_call_no (W : World) (u : TypeId) (v : Value) (h : u ≠ 125) : (Instr.typeAssert (.iface u v) 58 125 true).run Tryd.prog W = .ok (.tuple #[.agg #[.string ⟨#[]⟩, .slice none 0 0], .bool false]) W := by
 have e : (Instr.typeAssert (.iface u v) 58 125 true).run Tryd.prog W = (if u = 125 then (pure (Value.tuple #[v, .bool true]) : Sem Value) else (do pure (Value.tuple #[← zeroValue 125, .bool false]))).run Tryd.prog W := by kernel_rfl
 rw [e, if_neg h]
 show _ = _; kernel_rfl
theorem as_un_yes (W : World) (v : Value) : (Instr.typeAssert (.iface 89 v) 58 89 true).run Tryd.prog W = .ok (.tuple #[v, .bool true]) W := by kernel_rfl
theorem as_un_no (W : World) (u : TypeId) (v : Value) (h : u ≠ 89) : (Instr.typeAssert (.iface u v) 58 89 true).run Tryd.prog W = .ok (.tuple #[.agg #[.int .i64 0, .nilIface], .bool false]) W := by
 have e : (Instr.typeAssert (.iface u v) 58 89 true).run Tryd.prog W = (if u = 89 then (pure (Value.tuple #[v, .bool true]) : Sem Value) else (do pure (Value.tuple #[← zeroValue 89, .bool false]))).run Tryd.prog W := by kernel_rfl
 rw [e, if_neg h]
 show _ = _; kernel_rfl
theorem as_bin_yes (W : World) (v : Value) : (Instr.typeAssert (.iface 95 v) 58 95 true).run Tryd.prog W = .ok (.tuple #[v, .bool true]) W := by kernel_rfl
theorem as_bin_no (W : World) (u : TypeId) (v : Value) (h : u ≠ 95) : (Instr.typeAssert (.iface u v) 58 95 true).run Tryd.prog W = .ok (.tuple #[.agg #[.int .i64 0, .nilIface, .nilIface], .bool false]) W := by
 have e : (Instr.typeAssert (.iface u v) 58 95 true).run Tryd.prog W = (if u = 95 then (pure (Value.tuple #[v, .bool true]) : Sem Value) else (do pure (Value.tuple #[← zeroValue 95, .bool false]))).run Tryd.prog W := by kernel_rfl
 rw [e, if_neg h]
 show _ = _; kernel_rfl
theorem as_and_yes (W : World) (v : Value) : (Instr.typeAssert (.iface 98 v) 58 98 true).run Tryd.prog W = .ok (.tuple #[v, .bool true]) W := by kernel_rfl
theorem as_and_no (W : World) (u : TypeId) (v : Value) (h : u ≠ 98) : (Instr.typeAssert (.iface u v) 58 98 true).run Tryd.prog W = .ok (.tuple #[.agg #[.nilIface, .nilIface], .bool false]) W := by
 have e : (Instr.typeAssert (.iface u v) 58 98 true).run Tryd.prog W = (if u = 98 then (pure (Value.tuple #[v, .bool true]) : Sem Value) else (do pure (Value.tuple #[← zeroValue 98, .bool false]))).run Tryd.prog W := by kernel_rfl
 rw [e, if_neg h]
 show _ = _; kernel_rfl
theorem as_or_yes (W : World) (v : Value) : (Instr.typeAssert (.iface 100 v) 58 100 true).run Tryd.prog W = .ok (.tuple #[v, .bool true]) W := by kernel_rfl
theorem as_or_no (W : World) (u : TypeId) (v : Value) (h : u ≠ 100) : (Instr.typeAssert (.iface u v) 58 100 true).run Tryd.prog W = .ok (.tuple #[.agg #[.nilIface, .nilIface], .bool false]) W := by
 have e : (Instr.typeAssert (.iface u v) 58 100 true).run Tryd.prog W = (if u = 100 then (pure (Value.tuple #[v, .bool true]) : Sem Value) else (do pure (Value.tuple #[← zeroValue 100, .bool false]))).run Tryd.prog W := by kernel_rfl
 rw [e, if_neg h]
 show _ = _; kernel_rfl
end
end Go.Proofs.YtolkpkklinoegaaDoor
