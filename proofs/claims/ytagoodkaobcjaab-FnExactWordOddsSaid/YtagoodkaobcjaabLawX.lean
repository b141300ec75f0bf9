/- The laws' helpers, each telling what it leaves below the heap's end. -/
import Derived.Test.YtagoodkaobcjaabLawI
import Derived.Test.YtagoodkaobcjaabLawT
namespace Go.Proofs.Ytagoodkaobcjaab
open Go.RowKit
set_option linter.unusedVariables false
end Go.Proofs.Ytagoodkaobcjaab
