/- The depths of the nodes, in the program and in the model. -/
import Derived.Test.YtnpiciabpgkiiaaPrm
import Derived.Test.YtnpiciabpgkiiaaEnds
import Derived.Test.YtnpiciabpgkiiaaDepthP
namespace Go.Proofs.Ytnpiciabpgkiiaa
open Go.RowKit
set_option linter.unusedVariables false
end Go.Proofs.Ytnpiciabpgkiiaa
