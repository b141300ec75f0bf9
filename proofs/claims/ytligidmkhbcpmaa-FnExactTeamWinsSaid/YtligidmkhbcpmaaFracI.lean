/- Fractions in the program: the greatest common divisor, bounds, lowest terms. -/
import Derived.Test.YtligidmkhbcpmaaChecked
import Derived.Test.YtligidmkhbcpmaaFracP
import Derived.Test.YtligidmkhbcpmaaTreeH
import Derived.WalkKit
import Derived.ProofKit
import Derived.Outline
import Derived.Below
import Derived.Lib.Hide
import Derived.WalkSmall
import Derived.WalkSpells
import Derived.WalkLawsBesides
import Derived.Deep.QuietTactic
import Derived.BigQuiet
namespace Go.Proofs.Ytligidmkhbcpmaa
open Go.RowKit
set_option linter.unusedVariables false
theorem gI_step {x y : Int} (hx : x ≠ 0) : gI (y.tmod x) x = gI x y := by
  unfold gI
  have h1 : Int.gcd (y.tmod x) x = Int.gcd x y := by
    rw [Int.gcd_comm]
    unfold Int.gcd
    rw [Int.natAbs_tmod, Nat.gcd_comm, ← Nat.gcd_rec]
  rw [h1]
theorem tmod_bd {x y : Int} (hx : x ≠ 0) : (y.tmod x).natAbs < x.natAbs := by
  rw [Int.natAbs_tmod]; exact Nat.mod_lt _ (by omega)
theorem ret_int' {k : IntKind} {a b : Int} (h : b = a) : Ending.returned (.int k a) = .returned (.int k b) := by rw [h]
theorem gI_zero_l (b : Int) : gI 0 b = (b.natAbs : Int) := by unfold gI; rw [Int.gcd_zero_left]
theorem inB_mk {n d : Int} {b : Bool} (h : b = true ↔ (-1000000000 ≤ n ∧ n ≤ 1000000000 ∧ 1 ≤ d ∧ d ≤ 1000000)) : inB n d = b := by
  unfold inB; rw [Bool.eq_iff_iff, h]; simp
end Go.Proofs.Ytligidmkhbcpmaa
