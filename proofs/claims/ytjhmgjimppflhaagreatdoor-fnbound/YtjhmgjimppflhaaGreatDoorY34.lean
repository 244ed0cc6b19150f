import Derived.Test.YtjhmgjimppflhaaGreatDoorY16
import Derived.Shelf.RegionOpen
set_option linter.unusedSectionVars false
variable [Inhabited Go.Proofs.YtjhmgjimppflhaaGreatDoor.Pick]
namespace Go.Proofs.YtjhmgjimppflhaaGreatDoor
set_option linter.unusedVariables false
set_option linter.unusedSimpArgs false
set_option maxRecDepth 100000
set_option maxHeartbeats 16000000
section
open Go.RowKit
theorem wrapI64 (n : Int) : IntKind.i64.wrap n = (n + 9223372036854775808) % 18446744073709551616 - 9223372036854775808 := by
 simp [IntKind.wrap, IntKind.bits, IntKind.signed]; omega
theorem VRow.mono {B B' : Nat} {w : World} {v : Value} {us : List Value} (h : VRow B w v us) (hB : B' ≤ B) : VRow B' w v us := by
 refine ⟨h.1, ?_⟩
 rcases h.2 with h1 | ⟨g, cap, cur, h1, h2, h3⟩
 ·exact .inl h1
 ·exact .inr ⟨g, cap, cur, h1, by omega, h3⟩
theorem Src.lit (w : World) (x : Value) (t : TypeId) : Src (w.alloc (.cells #[x] t)) (.slice (some ⟨w.heap.size, 0, none⟩) 1 1) [x] := by
 refine ⟨_, _, rfl, fun h => (by cases h), fun ad had j y hy => ?_⟩
 simp only [Option.some.injEq] at had
 subst had
 cases j with
 | zero => simp at hy; subst hy; simp [Addr.add]
 | succ j => simp at hy
set_option maxRecDepth 100000 in
theorem vcut_l (a : Option Addr) (n cap lo : Nat) (h2 : lo ≤ n) (h3 : n ≤ cap) : ∀ w : World, (Instr.slice 196 (.slice a n cap) (some (.int .i64 lo)) none none).run Tryz.prog w = .ok (.slice (if cap = lo then a else a.map (·.add (lo * 1))) (n - lo) (cap - lo)) w := by
 intro w
 have hz : Tryz.prog.elem 196 = 168 := by kernel_rfl
 have hs : (sizeOf 168).run Tryz.prog w = .ok 1 w := by kernel_rfl
 rw [run_slice_l w 196 a n cap (by rw [hz]; exact Tryz.underlying196) .i64 _ (by omega) (by omega), hz, hs]
 simp only [Result.andThen, sliced, Int.toNat_natCast]
set_option maxRecDepth 100000 in
theorem vcut_h (a : Option Addr) (n cap lo : Nat) (h2 : lo ≤ n) (h3 : n ≤ cap) : ∀ w : World, (Instr.slice 196 (.slice a n cap) none (some (.int .i64 lo)) none).run Tryz.prog w = .ok (.slice a lo cap) w := by
 intro w
 have hz : Tryz.prog.elem 196 = 168 := by kernel_rfl
 have hs : (sizeOf 168).run Tryz.prog w = .ok 1 w := by kernel_rfl
 rw [run_slice_h w 196 a n cap (by rw [hz]; exact Tryz.underlying196) .i64 _ (by omega) (by omega), hz, hs]
 cases a <;> simp [Result.andThen, sliced, Addr.add]
end
end Go.Proofs.YtjhmgjimppflhaaGreatDoor
