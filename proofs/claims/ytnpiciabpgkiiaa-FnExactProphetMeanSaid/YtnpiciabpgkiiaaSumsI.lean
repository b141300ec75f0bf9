/- SumsOf in the program. -/
import Derived.Test.YtnpiciabpgkiiaaSumS
namespace Go.Proofs.Ytnpiciabpgkiiaa
open Go.RowKit
set_option linter.unusedVariables false
end Go.Proofs.Ytnpiciabpgkiiaa
