/- The depths of the nodes, in the program and in the model. -/
import Derived.Test.YtnpiciabpgkiiadPrm
import Derived.Test.YtnpiciabpgkiiadEnds
import Derived.Test.YtnpiciabpgkiiadDepthP
namespace Go.Proofs.Ytnpiciabpgkiiad
open Go.RowKit
set_option linter.unusedVariables false
end Go.Proofs.Ytnpiciabpgkiiad
