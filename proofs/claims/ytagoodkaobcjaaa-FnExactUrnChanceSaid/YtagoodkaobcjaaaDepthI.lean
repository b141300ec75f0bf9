/- The depths of the nodes, in the program and in the model. -/
import Derived.Test.YtagoodkaobcjaaaPrm
import Derived.Test.YtagoodkaobcjaaaEnds
import Derived.Test.YtagoodkaobcjaaaDepthP
namespace Go.Proofs.Ytagoodkaobcjaaa
open Go.RowKit
set_option linter.unusedVariables false
end Go.Proofs.Ytagoodkaobcjaaa
