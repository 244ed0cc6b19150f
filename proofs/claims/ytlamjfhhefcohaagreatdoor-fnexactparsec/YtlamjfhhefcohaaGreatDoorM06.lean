import Derived.Test.YtlamjfhhefcohaaGreatDoorRows
import Derived.Test.YtlamjfhhefcohaaGreatDoorM02
import Derived.WalkKit
import Derived.WalkSpells
import Derived.ProofKit
import Derived.Deep.RegionHeld
import Derived.Lib.ItoaNum
import Derived.Lib.ConvBytes
namespace Go.Proofs.YtlamjfhhefcohaaGreatDoor
set_option linter.unusedVariables false
set_option linter.unusedSimpArgs false
set_option maxRecDepth 100000
set_option maxHeartbeats 16000000
section
open Go.RowKit
end
end Go.Proofs.YtlamjfhhefcohaaGreatDoor
