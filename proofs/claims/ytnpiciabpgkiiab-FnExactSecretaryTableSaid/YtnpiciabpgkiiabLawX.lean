/- The laws' helpers, each telling what it leaves below the heap's end. -/
import Derived.Test.YtnpiciabpgkiiabLawI
import Derived.Test.YtnpiciabpgkiiabLawT
namespace Go.Proofs.Ytnpiciabpgkiiab
open Go.RowKit
set_option linter.unusedVariables false
end Go.Proofs.Ytnpiciabpgkiiab
