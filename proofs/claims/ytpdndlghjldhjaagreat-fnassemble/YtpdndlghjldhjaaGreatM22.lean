import Derived.Test.YtpdndlghjldhjaaGreatM04
import Derived.Lib.ConvBytes
namespace Go.Proofs.YtpdndlghjldhjaaGreat
set_option linter.unusedVariables false
set_option linter.unusedSimpArgs false
set_option maxRecDepth 100000
set_option maxHeartbeats 16000000
section
open Go.RowKit
end
end Go.Proofs.YtpdndlghjldhjaaGreat
