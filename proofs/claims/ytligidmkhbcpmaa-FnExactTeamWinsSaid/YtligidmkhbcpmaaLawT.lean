/- What the laws over a tree lean on: the tree's box, worlds between calls. -/
import Derived.Test.YtligidmkhbcpmaaLawI
import Derived.Test.YtligidmkhbcpmaaEnds
import Derived.Test.YtligidmkhbcpmaaOpen
import Derived.Test.YtligidmkhbcpmaaFrame
import Derived.Deep.RegionHeld3
import Derived.Deep.DeepCutAuto
namespace Go.Proofs.Ytligidmkhbcpmaa
open Go.RowKit
set_option linter.unusedVariables false
/-- A function of a tree that makes a row. -/
def MakesB (f : FuncId) (xs : Array Value) (ps ws zs : List Int) (ok : Bool) : Prop :=
  ∀ (w : World) (v : Value), TreeV w w.heap.size v ps ws → Calls Try.prog f (#[v] ++ xs) w (NewIntsB zs ok w)
theorem left_ok {ps ws : List Int} (h : ¬ leftOf 1048576 ps ws < 0) : ps.length ≤ 1048576 ∧ ws.length ≤ 1048576 := by
  unfold leftOf at h
  split at h
  · omega
  · split at h <;> omega
theorem OwnTree.treeAt {w : World} {lo hi : Nat} {v : Value} {ps ws : List Int} (h : OwnTree w lo hi v ps ws) (hh : hi ≤ w.heap.size) : TreeV w w.heap.size v ps ws := h.treeV.more hh
theorem OwnTree.shape {w : World} {lo hi : Nat} {v : Value} {ps ws : List Int} (h : OwnTree w lo hi v ps ws) : ∃ p1 c1 p2 c2, v = .agg #[.slice p1 ps.length c1, .slice p2 ws.length c2] := by
  obtain ⟨v1, v2, mid, e, _, _, a, b⟩ := h
  obtain ⟨p1, c1, e1, _⟩ := a.intsV
  obtain ⟨p2, c2, e2, _⟩ := b.intsV
  exact ⟨p1, c1, p2, c2, by rw [e, e1, e2]⟩
theorem TreeV.shape {w : World} {B : Nat} {v : Value} {ps ws : List Int} (h : TreeV w B v ps ws) : ∃ p1 c1 p2 c2, v = .agg #[.slice p1 ps.length c1, .slice p2 ws.length c2] := by
  obtain ⟨v1, v2, e, ⟨p1, c1, e1, _⟩, ⟨p2, c2, e2, _⟩⟩ := h
  exact ⟨p1, c1, p2, c2, by rw [e, e1, e2]⟩
end Go.Proofs.Ytligidmkhbcpmaa
