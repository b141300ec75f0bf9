/- The depths of the nodes, in the program and in the model. -/
import Derived.Test.YtamneibnjbimeabPrm
import Derived.Test.YtamneibnjbimeabEnds
import Derived.Test.YtamneibnjbimeabDepthP
namespace Go.Proofs.Ytamneibnjbimeab
open Go.RowKit
set_option linter.unusedVariables false
end Go.Proofs.Ytamneibnjbimeab
