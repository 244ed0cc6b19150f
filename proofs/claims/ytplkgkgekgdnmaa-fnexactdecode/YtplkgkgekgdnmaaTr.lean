import Derived.Test.YtplkgkgekgdnmaaLe
import Derived.Test.YtplkgkgekgdnmaaGu
namespace Go.Proofs.Ytplkgkgekgdnmaa
open Go.RowKit
set_option linter.unusedVariables false
set_option linter.unusedSimpArgs false
/-- What both programs find when they try the word v as one of op: the fields, and the word of these. -/
def TryIs (op v rd s1 s2 im R : Int) (T : TypeId) (cv : Value) (fw fi : Nat) : Prop :=
  tabA[op.toNat]? = some (.iface T cv) ∧
  (∀ W : World, (method 237 T cv "loop.example/s01725/impl.word").run Try.prog W = .ok (fw, cv) W) ∧
  (∀ W : World, (method 237 T cv "loop.example/s01725/impl.inst").run Try.prog W = .ok (fi, cv) W) ∧
  (∀ W : World, Calls Try.prog fi #[cv, .int .u32 v] W fun e w' => e = .returned (.agg #[.int .i64 0, .int .i64 rd, .int .i64 s1, .int .i64 s2, .int .i64 im]) ∧ Below W.heap.size W w') ∧
  (∀ W : World, Calls Try.prog fw #[cv, .agg #[.int .i64 0, .int .i64 rd, .int .i64 s1, .int .i64 s2, .int .i64 im]] W fun e w' => e = .returned (.int .u32 R) ∧ Below W.heap.size W w') ∧
  (∀ W : World, Calls Try.prog 39 #[.int .u32 v, .int .i64 op] W fun e w' => e = .returned (.agg #[.int .i64 op, .int .i64 rd, .int .i64 s1, .int .i64 s2, .int .i64 im]) ∧ Below W.heap.size W w') ∧
  (∀ W : World, Calls Try.prog 12 #[.agg #[.int .i64 op, .int .i64 rd, .int .i64 s1, .int .i64 s2, .int .i64 im]] W fun e w' => e = .returned (.int .u32 R) ∧ Below W.heap.size W w') ∧ 0 < R ∧
  (∀ (x y : Value) (W : World), (callFunc fw #[x, y]).run Try.prog W = .ok (.enter fw #[x, y]) W) ∧ (∀ (x y : Value) (W : World), (callFunc fi #[x, y]).run Try.prog W = .ok (.enter fi #[x, y]) W)
theorem cfwU (x y : Value) (W : World) : (callFunc 100 #[x, y]).run Try.prog W = .ok (.enter 100 #[x, y]) W := by kernel_rfl
theorem cfiU (x y : Value) (W : World) : (callFunc 99 #[x, y]).run Try.prog W = .ok (.enter 99 #[x, y]) W := by kernel_rfl
theorem tryU (op v : Int) (h : op = 1) (hv : 0 ≤ v ∧ v ≤ 4294967295) : ∃ rd s1 s2 im R T cv fw fi, TryIs op v rd s1 s2 im R T cv fw fi := by
  have hp := oc_pos op (by omega)
  have o2 := f3_bd op
  have o3 := f7_bd op
  refine ⟨_, _, _, _, _, _, _, _, _, tabU op h, fun W => mwU _ W, fun W => miU _ W, fun W => instU _ v W hv, fun W => wordU _ _ _ _ _ _ W (oc_bd op), fun W => guessU op v W h hv, fun W => encU op _ _ _ _ W h (gvU v hv), ?_, cfwU, cfiU⟩
  generalize v / 4096 % 1048576 = z at *
  omega
theorem cfwJ (x y : Value) (W : World) : (callFunc 105 #[x, y]).run Try.prog W = .ok (.enter 105 #[x, y]) W := by kernel_rfl
theorem cfiJ (x y : Value) (W : World) : (callFunc 104 #[x, y]).run Try.prog W = .ok (.enter 104 #[x, y]) W := by kernel_rfl
theorem tryJ (op v : Int) (h : op = 2) (hv : 0 ≤ v ∧ v ≤ 4294967295) : ∃ rd s1 s2 im R T cv fw fi, TryIs op v rd s1 s2 im R T cv fw fi := by
  have hp := oc_pos op (by omega)
  have o2 := f3_bd op
  have o3 := f7_bd op
  refine ⟨_, _, _, _, _, _, _, _, _, tabJ op h, fun W => mwJ _ W, fun W => miJ _ W, fun W => instJ _ v W hv, fun W => wordJ _ _ _ _ _ _ W (oc_bd op), fun W => guessJ op v W h hv, fun W => encJ op _ _ _ _ W h (gvJ v hv), ?_, cfwJ, cfiJ⟩
  generalize sg (v / 2097152 % 1024 * 2 + v / 1048576 % 2 * 2048 + v / 4096 % 256 * 4096 + v / 2147483648 % 2 * 1048576) 1048576 2097152 = z at *
  omega
theorem cfwB (x y : Value) (W : World) : (callFunc 113 #[x, y]).run Try.prog W = .ok (.enter 113 #[x, y]) W := by kernel_rfl
theorem cfiB (x y : Value) (W : World) : (callFunc 112 #[x, y]).run Try.prog W = .ok (.enter 112 #[x, y]) W := by kernel_rfl
theorem tryB (op v : Int) (h : 4 ≤ op ∧ op ≤ 9) (hv : 0 ≤ v ∧ v ≤ 4294967295) : ∃ rd s1 s2 im R T cv fw fi, TryIs op v rd s1 s2 im R T cv fw fi := by
  have hp := oc_pos op (by omega)
  have o2 := f3_bd op
  have o3 := f7_bd op
  refine ⟨_, _, _, _, _, _, _, _, _, tabB op h, fun W => mwB _ _ W, fun W => miB _ _ W, fun W => instB _ _ v W hv, fun W => wordB _ _ _ _ _ _ _ W (oc_bd op) (f3_bd op), fun W => guessB op v W h hv, fun W => encB op _ _ _ _ W h (gvB v hv), ?_, cfwB, cfiB⟩
  generalize sg (v / 256 % 16 * 2 + v / 33554432 % 64 * 32 + v / 128 % 2 * 2048 + v / 2147483648 % 2 * 4096) 4096 8192 = z at *
  omega
theorem cfwS (x y : Value) (W : World) : (callFunc 117 #[x, y]).run Try.prog W = .ok (.enter 117 #[x, y]) W := by kernel_rfl
theorem cfiS (x y : Value) (W : World) : (callFunc 116 #[x, y]).run Try.prog W = .ok (.enter 116 #[x, y]) W := by kernel_rfl
theorem tryS (op v : Int) (h : op = 11) (hv : 0 ≤ v ∧ v ≤ 4294967295) : ∃ rd s1 s2 im R T cv fw fi, TryIs op v rd s1 s2 im R T cv fw fi := by
  have hp := oc_pos op (by omega)
  have o2 := f3_bd op
  have o3 := f7_bd op
  refine ⟨_, _, _, _, _, _, _, _, _, tabS op h, fun W => mwS _ _ W, fun W => miS _ _ W, fun W => instS _ _ v W hv, fun W => wordS _ _ _ _ _ _ _ W (oc_bd op) (f3_bd op), fun W => guessS op v W h hv, fun W => encS op _ _ _ _ W h (gvS v hv), ?_, cfwS, cfiS⟩
  generalize sg (v / 128 % 32 + v / 33554432 % 128 * 32) 2048 4096 = z at *
  omega
theorem cfwH (x y : Value) (W : World) : (callFunc 119 #[x, y]).run Try.prog W = .ok (.enter 119 #[x, y]) W := by kernel_rfl
theorem cfiH (x y : Value) (W : World) : (callFunc 118 #[x, y]).run Try.prog W = .ok (.enter 118 #[x, y]) W := by kernel_rfl
theorem tryH (op v : Int) (h : 18 ≤ op ∧ op ≤ 20) (hv : 0 ≤ v ∧ v ≤ 4294967295) : ∃ rd s1 s2 im R T cv fw fi, TryIs op v rd s1 s2 im R T cv fw fi := by
  have hp := oc_pos op (by omega)
  have o2 := f3_bd op
  have o3 := f7_bd op
  refine ⟨_, _, _, _, _, _, _, _, _, tabH op h, fun W => mwH _ _ _ W, fun W => miH _ _ _ W, fun W => instH _ _ _ v W hv, fun W => wordH _ _ _ _ _ _ _ _ W (oc_bd op) (f3_bd op) (f7_bd op), fun W => guessH op v W h hv, fun W => encH op _ _ _ _ W h (gvH v hv), ?_, cfwH, cfiH⟩
  generalize v / 1048576 % 32 = z at *
  omega
theorem cfwR (x y : Value) (W : World) : (callFunc 121 #[x, y]).run Try.prog W = .ok (.enter 121 #[x, y]) W := by kernel_rfl
theorem cfiR (x y : Value) (W : World) : (callFunc 120 #[x, y]).run Try.prog W = .ok (.enter 120 #[x, y]) W := by kernel_rfl
theorem tryR (op v : Int) (h : 21 ≤ op ∧ op ≤ 33) (hv : 0 ≤ v ∧ v ≤ 4294967295) : ∃ rd s1 s2 im R T cv fw fi, TryIs op v rd s1 s2 im R T cv fw fi := by
  have hp := oc_pos op (by omega)
  have o2 := f3_bd op
  have o3 := f7_bd op
  refine ⟨_, _, _, _, _, _, _, _, _, tabR op h, fun W => mwR _ _ _ W, fun W => miR _ _ _ W, fun W => instR _ _ _ v W hv, fun W => wordR _ _ _ _ _ _ _ _ W (oc_bd op) (f3_bd op) (f7_bd op), fun W => guessR op v W h hv, fun W => encR op _ _ _ _ W h (gvR v hv), ?_, cfwR, cfiR⟩
  omega
theorem cfwE (x y : Value) (W : World) : (callFunc 123 #[x, y]).run Try.prog W = .ok (.enter 123 #[x, y]) W := by kernel_rfl
theorem cfiE (x y : Value) (W : World) : (callFunc 122 #[x, y]).run Try.prog W = .ok (.enter 122 #[x, y]) W := by kernel_rfl
theorem tryE (op v : Int) (h : op = 34) (hv : 0 ≤ v ∧ v ≤ 4294967295) : ∃ rd s1 s2 im R T cv fw fi, TryIs op v rd s1 s2 im R T cv fw fi := by
  have hp := oc_pos op (by omega)
  have o2 := f3_bd op
  have o3 := f7_bd op
  refine ⟨_, _, _, _, _, _, _, _, _, tabE op h, fun W => mwE _ W, fun W => miE _ W, fun W => instE _ v W hv, fun W => wordE _ _ _ _ _ _ W (oc_bd op), fun W => guessE op v W h hv, fun W => encE op _ _ _ _ W h (gvE v hv), ?_, cfwE, cfiE⟩
  omega
theorem cfwI (x y : Value) (W : World) : (callFunc 108 #[x, y]).run Try.prog W = .ok (.enter 108 #[x, y]) W := by kernel_rfl
theorem cfiI (x y : Value) (W : World) : (callFunc 107 #[x, y]).run Try.prog W = .ok (.enter 107 #[x, y]) W := by kernel_rfl
theorem tryI (op v : Int) (h : op = 3 ∨ op = 10 ∨ (12 ≤ op ∧ op ≤ 17)) (hv : 0 ≤ v ∧ v ≤ 4294967295) : ∃ rd s1 s2 im R T cv fw fi, TryIs op v rd s1 s2 im R T cv fw fi := by
  have hp := oc_pos op (by omega)
  have o2 := f3_bd op
  have o3 := f7_bd op
  refine ⟨_, _, _, _, _, _, _, _, _, tabI op h, fun W => mwI _ _ W, fun W => miI _ _ W, fun W => instI _ _ v W hv, fun W => wordI _ _ _ _ _ _ _ W (oc_bd op) (f3_bd op), fun W => guessI op v W h hv, fun W => encI op _ _ _ _ W h (gvI v hv), ?_, cfwI, cfiI⟩
  generalize sg (v / 1048576 % 4096) 2048 4096 = z at *
  omega
theorem try_any (op v : Int) (h : 1 ≤ op ∧ op ≤ 34) (hv : 0 ≤ v ∧ v ≤ 4294967295) : ∃ rd s1 s2 im R T cv fw fi, TryIs op v rd s1 s2 im R T cv fw fi := by
  by_cases c1 : op = 1
  · exact tryU op v c1 hv
  by_cases c2 : op = 2
  · exact tryJ op v c2 hv
  by_cases c3 : 4 ≤ op ∧ op ≤ 9
  · exact tryB op v c3 hv
  by_cases c4 : op = 11
  · exact tryS op v c4 hv
  by_cases c5 : 18 ≤ op ∧ op ≤ 20
  · exact tryH op v c5 hv
  by_cases c6 : 21 ≤ op ∧ op ≤ 33
  · exact tryR op v c6 hv
  by_cases c7 : op = 34
  · exact tryE op v c7 hv
  exact tryI op v (by omega) hv
end Go.Proofs.Ytplkgkgekgdnmaa
