/- The laws' helpers, each telling what it leaves below the heap's end. -/
import Derived.Test.YtligidmkhbcpmacLawI
import Derived.Test.YtligidmkhbcpmacLawT
namespace Go.Proofs.Ytligidmkhbcpmac
open Go.RowKit
set_option linter.unusedVariables false
end Go.Proofs.Ytligidmkhbcpmac
