/- SumsOf in the program. -/
import Derived.Test.YtagoodkaobcjaaaSumS
namespace Go.Proofs.Ytagoodkaobcjaaa
open Go.RowKit
set_option linter.unusedVariables false
end Go.Proofs.Ytagoodkaobcjaaa
