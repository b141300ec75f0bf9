/- The laws' helpers, each telling what it leaves below the heap's end. -/
import Derived.Test.YtamneibnjbimeabLawI
import Derived.Test.YtamneibnjbimeabLawT
namespace Go.Proofs.Ytamneibnjbimeab
open Go.RowKit
set_option linter.unusedVariables false
end Go.Proofs.Ytamneibnjbimeab
