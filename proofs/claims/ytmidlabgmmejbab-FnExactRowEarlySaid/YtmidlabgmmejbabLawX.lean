/- The laws' helpers, each telling what it leaves below the heap's end. -/
import Derived.Test.YtmidlabgmmejbabLawI
import Derived.Test.YtmidlabgmmejbabLawT
namespace Go.Proofs.Ytmidlabgmmejbab
open Go.RowKit
set_option linter.unusedVariables false
end Go.Proofs.Ytmidlabgmmejbab
