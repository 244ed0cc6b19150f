import Derived.Deep.RegionHeld
import Derived.Lib.ItoaNum
import Derived.Lib.ConvBytes
import Derived.Test.YtngnoopnloojjaaGreatDoorQ33
import Derived.Test.YtngnoopnloojjaaGreatDoorQ53
import Derived.Deep.RegionLaw
variable [Inhabited Go.Proofs.YtngnoopnloojjaaGreatDoor.Pick]
namespace Go.Proofs.YtngnoopnloojjaaGreatDoor
open Go.World
set_option linter.all false
set_option maxRecDepth 100000
set_option maxHeartbeats 0

end Go.Proofs.YtngnoopnloojjaaGreatDoor
namespace Go.Proofs.YtngnoopnloojjaaGreatDoor
open Go.World
open Go.RowKit
set_option linter.all false
set_option maxRecDepth 100000
set_option maxHeartbeats 0
def qd(w:AT)(B:Nat)(hB:B<=w.heap.size)(k v:Int)(s:IF):dW B (w.alloc (.cells #[V k,V v,sV s] 36)) (rV w.heap.size 1 1) [⟨k,v,s⟩]:=
 ownsRow_lit w #[V k,V v,sV s] 1 hB d_ rfl
end Go.Proofs.YtngnoopnloojjaaGreatDoor
namespace Go.Proofs.YtngnoopnloojjaaGreatDoor
open Go.World
set_option linter.all false
set_option maxRecDepth 100000
set_option maxHeartbeats 0

end Go.Proofs.YtngnoopnloojjaaGreatDoor
