/- The ends of a tree, in the program and in the model. -/
import Derived.Test.YtligidmkhbcpmaaPrm
import Derived.Test.YtligidmkhbcpmaaNodes
namespace Go.Proofs.Ytligidmkhbcpmaa
open Go.RowKit
set_option linter.unusedVariables false
/-- What a function returns that asks for a tree. -/
def ifGood (ps ws : List Int) (zs : List Int) : List Int := if goodT ps ws = true then zs else []
theorem endsT_good {ps ws : List Int} (g : Good ps ws) : nodesW (fun x => decide (0 < ws.getD x 0)) ps.length = endsT ps := by
  rw [endsT_eq]
  refine nodesW_congr fun x hx => ?_
  rw [Bool.eq_iff_iff, decide_eq_true_eq]
  exact g.end_iff hx
theorem parAll {ps ws : List Int} (g : Good ps ws) : ∀ y, y < ps.length → parOk ps y = true := by
  intro y hy
  rcases Nat.eq_zero_or_pos y with h | h
  · subst h; rw [parOk_zero]; simpa using g.root
  · rw [parOk_pos ps h]; simpa using g.par y h hy
theorem ends_len (ps ws : List Int) : (ifGood ps ws (endsT ps)).length ≤ 1048576 := by
  unfold ifGood
  split
  · rename_i h
    have := (Good.of h).n24
    have := nodesW_len (leafB ps) ps.length
    rw [endsT_eq]; omega
  · simp
end Go.Proofs.Ytligidmkhbcpmaa
