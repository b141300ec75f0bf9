/- The laws' helpers, each telling what it leaves below the heap's end. -/
import Derived.Test.YtnpiciabpgkiiaaLawI
import Derived.Test.YtnpiciabpgkiiaaLawT
namespace Go.Proofs.Ytnpiciabpgkiiaa
open Go.RowKit
set_option linter.unusedVariables false
end Go.Proofs.Ytnpiciabpgkiiaa
