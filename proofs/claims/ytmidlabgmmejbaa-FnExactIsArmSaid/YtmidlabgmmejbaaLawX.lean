/- The laws' helpers, each telling what it leaves below the heap's end. -/
import Derived.Test.YtmidlabgmmejbaaLawI
import Derived.Test.YtmidlabgmmejbaaLawT
namespace Go.Proofs.Ytmidlabgmmejbaa
open Go.RowKit
set_option linter.unusedVariables false
end Go.Proofs.Ytmidlabgmmejbaa
