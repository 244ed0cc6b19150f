import Derived.Test.YtngnoopnloojjaaGreatDoorQ64
import Derived.Deep.Cut
namespace Go.Proofs.YtngnoopnloojjaaGreatDoor
set_option linter.all false
set_option maxRecDepth 100000
set_option maxHeartbeats 0
variable[Inhabited Pick]

end Go.Proofs.YtngnoopnloojjaaGreatDoor
