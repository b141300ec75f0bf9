/- Whether there is a node; children. -/
import Derived.Test.YtligidmkhbcpmacSumS
namespace Go.Proofs.Ytligidmkhbcpmac
open Go.RowKit
set_option linter.unusedVariables false
/-- Whether x is a node of a tree. -/
def nodeB (ps ws : List Int) (x : Int) : Bool := goodT ps ws && decide (0 ≤ x ∧ x < (ps.length : Int))
end Go.Proofs.Ytligidmkhbcpmac
