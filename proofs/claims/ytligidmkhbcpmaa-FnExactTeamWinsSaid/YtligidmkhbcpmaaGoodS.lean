/- Whether a value is a tree, in the model. -/
import Derived.Test.YtligidmkhbcpmaaRow
import Derived.Test.YtligidmkhbcpmaaFracS
namespace Go.Proofs.Ytligidmkhbcpmaa
open Go.RowKit
set_option linter.unusedVariables false
theorem kidsF_nil {ps : List Int} (hp : ∀ y, y < ps.length → parOk ps y = true) (x : Nat) : kidsF ps x ps.length = [] ↔ leafB ps x = true := by
  rw [leafB_iff]
  unfold kidsF nodesW
  rw [List.map_eq_nil_iff, List.filter_eq_nil_iff]
  constructor
  · intro h y hy e
    refine h y (List.mem_range.2 hy) ?_
    have hg := hp y hy
    have : x < y := by
      by_cases h0 : y = 0
      · subst h0; rw [parOk_zero] at hg; have := of_decide_eq_true hg; omega
      · rw [parOk_pos ps (by omega)] at hg; have := of_decide_eq_true hg; omega
    rw [Bool.and_eq_true, decide_eq_true_eq, beq_iff_eq]
    exact ⟨by omega, e⟩
  · intro h y hy
    rw [Bool.and_eq_true, decide_eq_true_eq, beq_iff_eq]
    exact fun ⟨_, e⟩ => h y (List.mem_range.1 hy) e
theorem TreeV.boxed {w : World} {v : Value} {ps ws : List Int} (h : TreeV w w.heap.size v ps ws) {w1 : World} (hb : Below w.heap.size w w1) : TreeV w1 w1.heap.size v ps ws := (h.below hb).more hb.size
end Go.Proofs.Ytligidmkhbcpmaa
