import Derived.Deep.Cut
import Derived.Test.YtabjcodpagjbjaaGreatK46
namespace Go.Proofs.YtabjcodpagjbjaaGreat
open Go.RowKit
set_option linter.unusedVariables false
set_option linter.unusedSectionVars false
set_option linter.unusedSimpArgs false
variable [Inhabited Pick]

set_option maxRecDepth 8000 in
set_option maxHeartbeats 1000000 in
theorem szc_yes (x1 x2 x3 x4 x5 : Option Addr) (n1 n2 n3 n4 n5 y1 y2 y3 y4 y5 : Nat) (pc lo st left : Int) (w : World) (hl : 0 ≤ left ∧ left ≤ 1048576) (hs : (n1 : Int) + n2 + n3 + n4 + n5 ≤ left) :
    Calls Tryz.prog 5 #[.agg #[.slice x1 n1 y1, .int .u32 pc, .slice x2 n2 y2, .slice x3 n3 y3, .slice x4 n4 y4, .slice x5 n5 y5, .int .u32 lo, .int .i64 st], .int .i64 left] w fun e w' => ∃ k : Int, 0 ≤ k ∧ e = .returned (.int .i64 k) ∧ Below w.heap.size w w' := by
  have h1 : 0 ≤ left - n1 := by omega
  have h2 : 0 ≤ left - n1 - n2 := by omega
  have h3 : 0 ≤ left - n1 - n2 - n3 := by omega
  have h4 : 0 ≤ left - n1 - n2 - n3 - n4 := by omega
  have h5 : 0 ≤ left - n1 - n2 - n3 - n4 - n5 := by omega
  go_enter Tryz.func5, Tryz.ntmps5
  go_wp2
  go_ret
  refine ⟨left - n1 - n2 - n3 - n4 - n5, h5, rfl, (Below.refl _ _).alloc (Nat.le_refl _) _⟩
set_option maxRecDepth 8000 in
set_option maxHeartbeats 1000000 in
theorem szc_no (x1 x2 x3 x4 x5 : Option Addr) (n1 n2 n3 n4 n5 y1 y2 y3 y4 y5 : Nat) (pc lo st left : Int) (w : World) (hl : 0 ≤ left ∧ left ≤ 1048576) (hm : n1 ≤ 9223372036854775807 ∧ n2 ≤ 9223372036854775807 ∧ n3 ≤ 9223372036854775807 ∧ n4 ≤ 9223372036854775807 ∧ n5 ≤ 9223372036854775807) (hs : left < (n1 : Int) + n2 + n3 + n4 + n5) :
    Calls Tryz.prog 5 #[.agg #[.slice x1 n1 y1, .int .u32 pc, .slice x2 n2 y2, .slice x3 n3 y3, .slice x4 n4 y4, .slice x5 n5 y5, .int .u32 lo, .int .i64 st], .int .i64 left] w fun e w' => e = .returned (.int .i64 (-1)) ∧ Below w.heap.size w w' := by
  have HH : Hid _ := And.intro hl (And.intro hm hs)
  go_enter Tryz.func5, Tryz.ntmps5
  go_wp2
  all_goals go_ret
  all_goals first
    | exact ⟨rfl, (Below.refl _ _).alloc (Nat.le_refl _) _⟩
    | (exfalso; have := HH.out; omega)

end Go.Proofs.YtabjcodpagjbjaaGreat
