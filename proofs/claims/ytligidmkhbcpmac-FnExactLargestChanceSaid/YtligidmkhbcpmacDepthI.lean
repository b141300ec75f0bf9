/- The depths of the nodes, in the program and in the model. -/
import Derived.Test.YtligidmkhbcpmacPrm
import Derived.Test.YtligidmkhbcpmacEnds
import Derived.Test.YtligidmkhbcpmacDepthP
namespace Go.Proofs.Ytligidmkhbcpmac
open Go.RowKit
set_option linter.unusedVariables false
end Go.Proofs.Ytligidmkhbcpmac
