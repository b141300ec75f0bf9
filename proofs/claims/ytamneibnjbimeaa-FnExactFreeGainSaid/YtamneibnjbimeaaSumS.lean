/- A copy of a row, and the sums of the nodes, in the model. -/
import Derived.Test.YtamneibnjbimeaaSumI
import Derived.Test.YtamneibnjbimeaaDepthS
namespace Go.Proofs.Ytamneibnjbimeaa
open Go.RowKit
set_option linter.unusedVariables false
end Go.Proofs.Ytamneibnjbimeaa
