import Derived.Test.YtpdndlghjldhjaaGreatM01
import Derived.WalkSpells
import Derived.BigQuiet
import Derived.RegionTactic
namespace Go.Proofs.YtpdndlghjldhjaaGreat
set_option linter.unusedVariables false
set_option linter.unusedSimpArgs false
set_option maxRecDepth 100000
set_option maxHeartbeats 16000000
section
open Go.RowKit
end
end Go.Proofs.YtpdndlghjldhjaaGreat
