/- The laws' helpers, each telling what it leaves below the heap's end. -/
import Derived.Test.YtagoodkaobcjaaaLawI
import Derived.Test.YtagoodkaobcjaaaLawT
namespace Go.Proofs.Ytagoodkaobcjaaa
open Go.RowKit
set_option linter.unusedVariables false
end Go.Proofs.Ytagoodkaobcjaaa
