/- What two lists have in common, in the model. -/
import Derived.Test.YtagljebfbacdhaaRise
namespace Go.Proofs.Ytagljebfbacdhaa
open Go.RowKit
set_option linter.unusedVariables false
end Go.Proofs.Ytagljebfbacdhaa
