import Derived.Test.YtlamjfhhefcohaaGreatDoorM28
import Derived.Test.YtlamjfhhefcohaaGreatDoorM37
import Derived.Deep.RegionLaw
namespace Go.Proofs.YtlamjfhhefcohaaGreatDoor
set_option linter.unusedVariables false
set_option linter.unusedSimpArgs false
set_option maxRecDepth 100000
set_option maxHeartbeats 16000000
section
open Go.RowKit
end
end Go.Proofs.YtlamjfhhefcohaaGreatDoor
