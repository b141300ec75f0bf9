/- What the laws over a tree lean on: the tree's box, worlds between calls. -/
import Derived.Test.YtligidmkhbcpmacLawI
import Derived.Test.YtligidmkhbcpmacEnds
import Derived.Test.YtligidmkhbcpmacOpen
import Derived.Test.YtligidmkhbcpmacFrame
import Derived.Deep.RegionHeld3
import Derived.Deep.DeepCutAuto
namespace Go.Proofs.Ytligidmkhbcpmac
open Go.RowKit
set_option linter.unusedVariables false
/-- A function of a tree that makes a row. -/
def MakesB (f : FuncId) (xs : Array Value) (ps ws zs : List Int) (ok : Bool) : Prop :=
  ∀ (w : World) (v : Value), TreeV w w.heap.size v ps ws → Calls Try.prog f (#[v] ++ xs) w (NewIntsB zs ok w)
/-- The law's own box of the tree that came in. -/
def LBox (W : World) (v1 v2 : Value) : World := W.alloc (.cells #[v1, v2] 24)
theorem lbox_below (W : World) (v1 v2 : Value) : Below W.heap.size W (LBox W v1 v2) := (Below.refl _ _).alloc (Nat.le_refl _) _
theorem lbox_size (W : World) (v1 v2 : Value) : (LBox W v1 v2).heap.size = W.heap.size + 1 := by simp [LBox]
theorem lbox_cells {W w1 : World} {v1 v2 : Value} (hb : Below (LBox W v1 v2).heap.size (LBox W v1 v2) w1) : w1.cell? ⟨W.heap.size, 0, none⟩ = some v1 ∧ w1.cell? ⟨W.heap.size, 1, none⟩ = some v2 := by
  have k := (hb.block W.heap.size (by rw [lbox_size]; omega)).trans (alloc_heap W (.cells #[v1, v2] 24))
  exact ⟨(cell_of_heap (o := 0) k rfl).1, (cell_of_heap (o := 1) k rfl).1⟩
theorem left_ok {ps ws : List Int} (h : ¬ leftOf 1048576 ps ws < 0) : ps.length ≤ 1048576 ∧ ws.length ≤ 1048576 := by
  unfold leftOf at h
  split at h
  · omega
  · split at h <;> omega
theorem OwnTree.treeAt {w : World} {lo hi : Nat} {v : Value} {ps ws : List Int} (h : OwnTree w lo hi v ps ws) (hh : hi ≤ w.heap.size) : TreeV w w.heap.size v ps ws := h.treeV.more hh
theorem OwnTree.shape {w : World} {lo hi : Nat} {v : Value} {ps ws : List Int} (h : OwnTree w lo hi v ps ws) : ∃ p1 c1 p2 c2, v = .agg #[.slice p1 ps.length c1, .slice p2 ws.length c2] := by
  obtain ⟨v1, v2, mid, e, _, _, a, b⟩ := h
  obtain ⟨p1, c1, e1, _⟩ := a.intsV
  obtain ⟨p2, c2, e2, _⟩ := b.intsV
  exact ⟨p1, c1, p2, c2, by rw [e, e1, e2]⟩
theorem TreeV.shape {w : World} {B : Nat} {v : Value} {ps ws : List Int} (h : TreeV w B v ps ws) : ∃ p1 c1 p2 c2, v = .agg #[.slice p1 ps.length c1, .slice p2 ws.length c2] := by
  obtain ⟨v1, v2, e, ⟨p1, c1, e1, _⟩, ⟨p2, c2, e2, _⟩⟩ := h
  exact ⟨p1, c1, p2, c2, by rw [e, e1, e2]⟩
/-- The tree's box in a world in which the rest lies. -/
theorem ibox_cells {w w1 : World} {v1 v2 : Value} (hb : Below (w.alloc (.cells #[v1, v2] 29)).heap.size (w.alloc (.cells #[v1, v2] 29)) w1) : w1.cell? ⟨w.heap.size, 0, none⟩ = some v1 ∧ w1.cell? ⟨w.heap.size, 1, none⟩ = some v2 := by
  have k := (hb.block w.heap.size (by simp)).trans (alloc_heap w (.cells #[v1, v2] 29))
  exact ⟨(cell_of_heap (o := 0) k rfl).1, (cell_of_heap (o := 1) k rfl).1⟩
end Go.Proofs.Ytligidmkhbcpmac
