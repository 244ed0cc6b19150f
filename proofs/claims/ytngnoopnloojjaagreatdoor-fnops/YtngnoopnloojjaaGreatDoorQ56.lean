import Derived.Deep.RegionHeld3
import Derived.Test.YtngnoopnloojjaaGreatDoorQ54
import Derived.Deep.LoopGhost
namespace Go.Proofs.YtngnoopnloojjaaGreatDoor
set_option linter.all false
set_option maxRecDepth 100000
set_option maxHeartbeats 0
variable[Inhabited Pick]

section
open Go.RowKit
variable{t:Tr}
def qZ(h:(dQ t).1=0):∃m,bU t.fc mainS=some m:=by by_cases ht:(iT t).1=0;rw[lw ht]at h;exact rX h;rw[rU ht]at h;exact absurd h ht
end
end Go.Proofs.YtngnoopnloojjaaGreatDoor
