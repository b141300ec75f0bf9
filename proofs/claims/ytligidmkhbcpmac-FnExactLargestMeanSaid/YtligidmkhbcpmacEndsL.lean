/- The ends, as a list. -/
import Derived.Test.YtligidmkhbcpmacEnds
import Derived.Test.YtligidmkhbcpmacEvP
namespace Go.Proofs.Ytligidmkhbcpmac
set_option linter.unusedVariables false
theorem ends_in {ps : List Int} {i : Nat} (hi : i < (endsT ps).length) : ∃ x : Nat, (x : Int) = (endsT ps).getD i 0 ∧ x < ps.length ∧ leafB ps x = true := by
  have hm : (endsT ps).getD i 0 ∈ endsT ps := by
    rw [List.getD_eq_getElem?_getD, List.getElem?_eq_getElem hi]
    exact List.getElem_mem hi
  obtain ⟨x, h1, h2, h3⟩ := nodesW_mem (p := leafB ps) (n := ps.length) hm
  exact ⟨x, h1.symm, h2, h3⟩
theorem ends_le (ps : List Int) : (endsT ps).length ≤ ps.length := nodesW_len _ _
theorem ends_pos {ps ws : List Int} (g : Good ps ws) : 0 < (endsT ps).length := by
  have h1 := g.n1
  refine List.length_pos_of_mem (a := ((ps.length - 1 : Nat) : Int)) ?_
  unfold endsT
  rw [List.mem_map]
  exact ⟨ps.length - 1, List.mem_filter.2 ⟨List.mem_range.2 (by omega), last_leaf g⟩, rfl⟩
end Go.Proofs.Ytligidmkhbcpmac
