import Derived.Test.YtplkgkgekgdnmaaLs
import Derived.OwnWalk
import Derived.Laws.OwnMore
import Derived.Lib.AppendZeros
namespace Go.Proofs.Ytplkgkgekgdnmaa
open Go.RowKit
set_option linter.unusedVariables false
set_option linter.unusedSimpArgs false

theorem run_append_zeros0 {P : Program} (w : World) (t tn ty e : TypeId) (i : TypeInfo) (k kn : IntKind) (ht : P.underlying t = some (.slice e)) (htn : P.underlying tn = some (.int kn)) (hi : P.info? e = some i) :
    (Builtin.append_ #[t, tn] ty #[.slice none 0 0, .int k 0]).run P w = .ok (.slice none 0 0) w := by
  have hw : IntKind.i64.wrap (0 : Int) = 0 := by rw [IntKind.wrap_i64]; omega
  simp [Builtin.append_, run_underlying ht, run_underlying htn, sizeOf, typeInfo, hi, asInt, asIntOf, hw, Question.forced]

/-- 'append(nil, make([]T, n)...)'. -/
theorem run_append_zeros {P : Program} (w : World) (t tn ty e : TypeId) (i : TypeInfo) (k kq kn : IntKind) (ht : P.underlying t = some (.slice e)) (htn : P.underlying tn = some (.int kn)) (hi : P.info? e = some i)
    (hz : i.zero = some (.int k 0)) (hs : i.size = 1) (hb : i.bytes ≤ 8) (d : Int) (h0 : 0 ≤ d) (hd : d ≤ 1000000) :
    ∃ v' w', (Builtin.append_ #[t, tn] ty #[.slice none 0 0, .int kq d]).run P w = .ok v' w' ∧ w'.ownsRow w.heap.size e 1 v' d.toNat (List.replicate d.toNat (.int k 0)) ∧ w.grownBy w' none := by
  obtain ⟨n, rfl⟩ : ∃ n : Nat, d = n := ⟨d.toNat, by omega⟩
  simp only [Int.toNat_natCast]
  by_cases hn : n = 0
  · subst hn
    exact ⟨_, _, run_append_zeros0 w t tn ty e i kq kn ht htn hi, World.ownsRow_nil _ _ _ _, ⟨rfl, rfl, rfl, Nat.le_refl _, fun _ _ _ => rfl⟩⟩
  · have hr := Lib.run_append_nil_zeros (P := P) w t tn ty e i (.int k 0) kq kn ht htn hi hz n (by omega) (by omega) (by omega) (by have : n * i.bytes ≤ 1000000 * 8 := Nat.mul_le_mul (by omega) hb; omega)
    have hge := grownCap_ge w n 0 e
    have hzc : ∀ m, (Builtin.zeroCells (Value.cells (.int k 0)) m).toList = List.replicate m (.int k 0) := by
      intro m
      have e1 : (Value.int k 0).cells = #[Value.int k 0] := rfl
      rw [e1]
      apply List.ext_getElem?
      intro j
      by_cases hj : j < m
      · simp [Builtin.zeroCells, hj, Nat.mod_one]
      · simp [Builtin.zeroCells, hj]
    refine ⟨_, _, hr, ⟨by simp, .inr ⟨w.heap.size, _, _, rfl, Nat.le_refl _, heap_alloc_new w.drew _, hge, grownCap_le_maxLen w n 0 e (by unfold maxLen; omega), ?_, ?_⟩⟩, ⟨rfl, rfl, rfl, by simp, fun k hk _ => Below.heap_alloc w.drew _ k hk⟩⟩
    · rw [← Array.length_toList, Array.toList_append, hzc, hzc]
      simp
      omega
    · rw [Array.toList_append, hzc, hzc, Nat.mul_one]
      simp
end Go.Proofs.Ytplkgkgekgdnmaa
