/- The depths of the nodes, in the program and in the model. -/
import Derived.Test.YtamneibnjbimeaaPrm
import Derived.Test.YtamneibnjbimeaaEnds
import Derived.Test.YtamneibnjbimeaaDepthP
namespace Go.Proofs.Ytamneibnjbimeaa
open Go.RowKit
set_option linter.unusedVariables false
end Go.Proofs.Ytamneibnjbimeaa
