/- Fractions in the model: lowest terms, kept if they are a fraction. -/
import Derived.Test.YtligidmkhbcpmaaFracC
import Derived.WalkKit
import Derived.ProofKit
import Derived.Outline
import Derived.Below
import Derived.Lib.Hide
import Derived.WalkSmall
import Derived.WalkSpells
import Derived.WalkLawsBesides
import Derived.RegionTactic
import Derived.ChangeAlike
namespace Go.Proofs.Ytligidmkhbcpmaa
open Go.RowKit
set_option linter.unusedVariables false
end Go.Proofs.Ytligidmkhbcpmaa
