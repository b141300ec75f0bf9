/- The laws' helpers, each telling what it leaves below the heap's end. -/
import Derived.Test.YtfpckfameebdnaaLawI
import Derived.Test.YtfpckfameebdnaaLawT
namespace Go.Proofs.Ytfpckfameebdnaa
open Go.RowKit
set_option linter.unusedVariables false
end Go.Proofs.Ytfpckfameebdnaa
