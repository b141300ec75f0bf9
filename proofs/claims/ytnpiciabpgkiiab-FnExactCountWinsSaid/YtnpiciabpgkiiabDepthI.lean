/- The depths of the nodes, in the program and in the model. -/
import Derived.Test.YtnpiciabpgkiiabPrm
import Derived.Test.YtnpiciabpgkiiabEnds
import Derived.Test.YtnpiciabpgkiiabDepthP
namespace Go.Proofs.Ytnpiciabpgkiiab
open Go.RowKit
set_option linter.unusedVariables false
end Go.Proofs.Ytnpiciabpgkiiab
