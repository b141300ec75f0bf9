/- What functions of laws answer. -/
import Derived.Test.YtligidmkhbcpmacL7P
import Derived.Test.YtligidmkhbcpmacRes
import Derived.Test.YtligidmkhbcpmacFracB
namespace Go.Proofs.Ytligidmkhbcpmac
set_option linter.unusedVariables false
/-- The mean of a law. -/
def lawMeanV (zs : List Int) : Value := if lawB zs = true then keptV (cutN (moT zs zs.length) (smT zs zs.length)) (cutD (moT zs zs.length) (smT zs zs.length)) else .tuple #[.agg #[.int .i64 0, .int .i64 0], .bool false]
theorem lawMeanV_form (zs : List Int) : ∃ p q ok, lawMeanV zs = .tuple #[.agg #[.int .i64 p, .int .i64 q], .bool ok] := by
  unfold lawMeanV
  split
  · unfold keptV; split <;> exact ⟨_, _, _, rfl⟩
  · exact ⟨_, _, _, rfl⟩
end Go.Proofs.Ytligidmkhbcpmac
