import Derived.Test.YtffihdllalnncaaM22
import Derived.Test.YtffihdllalnncaaM25
namespace Go.Proofs.Ytffihdllalnncaa
open Go.RowKit
set_option linter.unusedVariables false
set_option linter.unusedSimpArgs false
end Go.Proofs.Ytffihdllalnncaa
