/- Rows of ints that a call appends to, beside boxes; results that are such rows. -/
import Derived.Test.YtligidmkhbcpmaaPrm
import Derived.Test.YtligidmkhbcpmaaIsTree
import Derived.Maps.AppendAt
namespace Go.Proofs.Ytligidmkhbcpmaa
open Go.RowKit
set_option linter.unusedVariables false
/-- The children of a node among the nodes below k. -/
def kidsF (ps : List Int) (x : Int) (k : Nat) : List Int := nodesW (fun y => decide (x < (y : Int)) && ps.getD y 0 == x) k
theorem kidsF_low (ps : List Int) (x : Int) (k : Nat) (h : (k : Int) ≤ x + 1) : kidsF ps x k = [] := by
  unfold kidsF nodesW
  rw [List.map_eq_nil_iff, List.filter_eq_nil_iff]
  intro y hy
  rw [List.mem_range] at hy
  simp; omega
end Go.Proofs.Ytligidmkhbcpmaa
