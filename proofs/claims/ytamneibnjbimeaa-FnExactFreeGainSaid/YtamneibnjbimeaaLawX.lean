/- The laws' helpers, each telling what it leaves below the heap's end. -/
import Derived.Test.YtamneibnjbimeaaLawI
import Derived.Test.YtamneibnjbimeaaLawT
namespace Go.Proofs.Ytamneibnjbimeaa
open Go.RowKit
set_option linter.unusedVariables false
end Go.Proofs.Ytamneibnjbimeaa
