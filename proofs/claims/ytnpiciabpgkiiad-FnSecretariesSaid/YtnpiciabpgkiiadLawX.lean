/- The laws' helpers, each telling what it leaves below the heap's end. -/
import Derived.Test.YtnpiciabpgkiiadLawI
import Derived.Test.YtnpiciabpgkiiadLawT
namespace Go.Proofs.Ytnpiciabpgkiiad
open Go.RowKit
set_option linter.unusedVariables false
end Go.Proofs.Ytnpiciabpgkiiad
