/- Fractions in the model: bounds, the greatest common divisor, whether a pair is a fraction. -/
import Derived.Test.YtligidmkhbcpmaaInS
import Derived.Test.YtligidmkhbcpmaaPrm
import Derived.Test.YtligidmkhbcpmaaFracB
import Derived.WalkKit
import Derived.ProofKit
import Derived.Outline
import Derived.Below
import Derived.Lib.Hide
import Derived.WalkSmall
import Derived.WalkSpells
import Derived.WalkLawsBesides
import Derived.Deep.QuietTactic
import Derived.BigQuiet
namespace Go.Proofs.Ytligidmkhbcpmaa
open Go.RowKit
set_option linter.unusedVariables false
theorem gI_stepS {x y : Int} (hx : 0 ≤ x) (hy : 0 < y) : gI y (x % y) = gI x y := by
  unfold gI
  have : Int.gcd y (x % y) = Int.gcd x y := by
    unfold Int.gcd
    rw [Int.natAbs_emod_of_nonneg hx, Nat.gcd_comm, ← Nat.gcd_rec, Nat.gcd_comm]
  rw [this]
theorem gI_zero_r (a : Int) : gI a 0 = (a.natAbs : Int) := by unfold gI; rw [Int.gcd_zero_right]
theorem gI_abs (n d : Int) : gI (n.natAbs : Int) d = gI n d := by unfold gI Int.gcd; simp
end Go.Proofs.Ytligidmkhbcpmaa
