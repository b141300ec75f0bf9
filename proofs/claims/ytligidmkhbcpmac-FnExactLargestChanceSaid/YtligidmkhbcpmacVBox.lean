/- Boxes of one value. -/
import Derived.Test.YtligidmkhbcpmacIsTree
namespace Go.Proofs.Ytligidmkhbcpmac
open Go.RowKit
set_option linter.unusedVariables false
/-- A box of one value. -/
def VBox (w : World) (B : Nat) (v : Value) (t : TypeId) : Prop := w.heap[B]? = some (.cells #[v] t (0, 0))
theorem VBox.below {w w1 : World} {B C : Nat} {v : Value} {t : TypeId} (h : VBox w B v t) (hb : Below C w w1) (hB : B < C) : VBox w1 B v t := (hb.block B hB).trans h
theorem VBox.lt {w : World} {B : Nat} {v : Value} {t : TypeId} (h : VBox w B v t) : B < w.heap.size := by unfold VBox at h; exact (Array.getElem?_eq_some_iff.1 h).1
theorem VBox.cell {w : World} {B : Nat} {v : Value} {t : TypeId} (h : VBox w B v t) : w.cell? ⟨B, 0, none⟩ = some v := (cell_of_heap (o := 0) h rfl).1
theorem VBox.next {w w1 : World} {B : Nat} {v : Value} {t : TypeId} (h : VBox w B v t) (hb : Below w.heap.size w w1) : VBox w1 B v t := h.below hb h.lt
theorem VBox.alloc {w : World} {B : Nat} {v : Value} {t : TypeId} (h : VBox w B v t) (o : Obj) : VBox (w.alloc o) B v t := by
  have hl := h.lt
  show (w.heap.push o)[B]? = _
  rw [Array.getElem?_push, if_neg (by omega)]; exact h
end Go.Proofs.Ytligidmkhbcpmac
