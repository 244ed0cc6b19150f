import Derived.Test.YtlamjfhhefcohaaGreatDoorM18
import Derived.Test.YtlamjfhhefcohaaGreatDoorM35
namespace Go.Proofs.YtlamjfhhefcohaaGreatDoor
set_option linter.unusedVariables false
set_option linter.unusedSimpArgs false
set_option maxRecDepth 100000
set_option maxHeartbeats 16000000
section
open Go.RowKit
def fnumI (fs : List Fu) (s : ByteArray) : Int := match fnum fs s with | some i => (i : Int) | none => -1
theorem fnumI_some {fs : List Fu} {s : ByteArray} {i : Nat} (h : fnum fs s = some i) : fnumI fs s = i := by unfold fnumI; rw [h]
theorem fnumI_none {fs : List Fu} {s : ByteArray} (h : fnum fs s = none) : fnumI fs s = -1 := by unfold fnumI; rw [h]
theorem ne_list {a b : ByteArray} (h : a ≠ b) : (a.toList == b.toList) = false := by
 rw [beq_eq_false_iff_ne]
 intro e
 rw [ByteArray.toList_eq, ByteArray.toList_eq] at e
 exact h (ByteArray.ext (Array.ext' e))
end
end Go.Proofs.YtlamjfhhefcohaaGreatDoor
