import Derived.Test.YtjhmgjimppflhaaGreatDoorRows
import Derived.WalkKit
import Derived.WalkSpells
import Derived.Test.YtjhmgjimppflhaaGreatDoorY00
namespace Go.Proofs.YtjhmgjimppflhaaGreatDoor
set_option linter.unusedVariables false
set_option linter.unusedSimpArgs false
set_option maxRecDepth 100000
set_option maxHeartbeats 16000000
section
open Go.RowKit
theorem as_index_yes (W : World) (v : Value) : (Instr.typeAssert (.iface 188 v) 168 188 true).run Tryz.prog W = .ok (.tuple #[v, .bool true]) W := by kernel_rfl
theorem as_index_no (W : World) (u : TypeId) (v : Value) (h : u ≠ 188) : (Instr.typeAssert (.iface u v) 168 188 true).run Tryz.prog W = .ok (.tuple #[.agg #[.string ⟨#[]⟩, .nilIface], .bool false]) W := by
 have e : (Instr.typeAssert (.iface u v) 168 188 true).run Tryz.prog W = (if u = 188 then (pure (Value.tuple #[v, .bool true]) : Sem Value) else (do pure (Value.tuple #[← zeroValue 188, .bool false]))).run Tryz.prog W := by kernel_rfl
 rw [e, if_neg h]
 show _ = _; kernel_rfl
theorem as_call_yes (W : World) (v : Value) : (Instr.typeAssert (.iface 198 v) 168 198 true).run Tryz.prog W = .ok (.tuple #[v, .bool true]) W := by kernel_rfl
theorem as_call_no (W : World) (u : TypeId) (v : Value) (h : u ≠ 198) : (Instr.typeAssert (.iface u v) 168 198 true).run Tryz.prog W = .ok (.tuple #[.agg #[.string ⟨#[]⟩, .slice none 0 0], .bool false]) W := by
 have e : (Instr.typeAssert (.iface u v) 168 198 true).run Tryz.prog W = (if u = 198 then (pure (Value.tuple #[v, .bool true]) : Sem Value) else (do pure (Value.tuple #[← zeroValue 198, .bool false]))).run Tryz.prog W := by kernel_rfl
 rw [e, if_neg h]
 show _ = _; kernel_rfl
theorem as_un_yes (W : World) (v : Value) : (Instr.typeAssert (.iface 190 v) 168 190 true).run Tryz.prog W = .ok (.tuple #[v, .bool true]) W := by kernel_rfl
theorem as_un_no (W : World) (u : TypeId) (v : Value) (h : u ≠ 190) : (Instr.typeAssert (.iface u v) 168 190 true).run Tryz.prog W = .ok (.tuple #[.agg #[.int .i64 0, .nilIface], .bool false]) W := by
 have e : (Instr.typeAssert (.iface u v) 168 190 true).run Tryz.prog W = (if u = 190 then (pure (Value.tuple #[v, .bool true]) : Sem Value) else (do pure (Value.tuple #[← zeroValue 190, .bool false]))).run Tryz.prog W := by kernel_rfl
 rw [e, if_neg h]
 show _ = _; kernel_rfl
theorem as_bin_yes (W : World) (v : Value) : (Instr.typeAssert (.iface 192 v) 168 192 true).run Tryz.prog W = .ok (.tuple #[v, .bool true]) W := by kernel_rfl
theorem as_bin_no (W : World) (u : TypeId) (v : Value) (h : u ≠ 192) : (Instr.typeAssert (.iface u v) 168 192 true).run Tryz.prog W = .ok (.tuple #[.agg #[.int .i64 0, .nilIface, .nilIface], .bool false]) W := by
 have e : (Instr.typeAssert (.iface u v) 168 192 true).run Tryz.prog W = (if u = 192 then (pure (Value.tuple #[v, .bool true]) : Sem Value) else (do pure (Value.tuple #[← zeroValue 192, .bool false]))).run Tryz.prog W := by kernel_rfl
 rw [e, if_neg h]
 show _ = _; kernel_rfl
theorem as_and_yes (W : World) (v : Value) : (Instr.typeAssert (.iface 194 v) 168 194 true).run Tryz.prog W = .ok (.tuple #[v, .bool true]) W := by kernel_rfl
theorem as_and_no (W : World) (u : TypeId) (v : Value) (h : u ≠ 194) : (Instr.typeAssert (.iface u v) 168 194 true).run Tryz.prog W = .ok (.tuple #[.agg #[.nilIface, .nilIface], .bool false]) W := by
 have e : (Instr.typeAssert (.iface u v) 168 194 true).run Tryz.prog W = (if u = 194 then (pure (Value.tuple #[v, .bool true]) : Sem Value) else (do pure (Value.tuple #[← zeroValue 194, .bool false]))).run Tryz.prog W := by kernel_rfl
 rw [e, if_neg h]
 show _ = _; kernel_rfl
theorem as_or_yes (W : World) (v : Value) : (Instr.typeAssert (.iface 195 v) 168 195 true).run Tryz.prog W = .ok (.tuple #[v, .bool true]) W := by kernel_rfl
theorem as_or_no (W : World) (u : TypeId) (v : Value) (h : u ≠ 195) : (Instr.typeAssert (.iface u v) 168 195 true).run Tryz.prog W = .ok (.tuple #[.agg #[.nilIface, .nilIface], .bool false]) W := by
 have e : (Instr.typeAssert (.iface u v) 168 195 true).run Tryz.prog W = (if u = 195 then (pure (Value.tuple #[v, .bool true]) : Sem Value) else (do pure (Value.tuple #[← zeroValue 195, .bool false]))).run Tryz.prog W := by kernel_rfl
 rw [e, if_neg h]
 show _ = _; kernel_rfl
end
end Go.Proofs.YtjhmgjimppflhaaGreatDoor
