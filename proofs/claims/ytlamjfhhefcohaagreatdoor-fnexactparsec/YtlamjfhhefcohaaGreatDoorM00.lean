import Derived.WalkKit
namespace Go.Proofs.YtlamjfhhefcohaaGreatDoor
set_option linter.unusedVariables false
set_option linter.unusedSimpArgs false
set_option maxRecDepth 100000
set_option maxHeartbeats 16000000
section
open Go.RowKit
theorem hide {p : Prop} (h : p) : Hid p := h
end
end Go.Proofs.YtlamjfhhefcohaaGreatDoor
