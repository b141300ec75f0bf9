/- Boxes of markets that grow. -/
import Derived.Test.YtamneibnjbimeaaMktH
namespace Go.Proofs.Ytamneibnjbimeaa
open Go.RowKit
set_option linter.unusedVariables false
theorem KBox.alloc {w : World} {B : Nat} {v1 v2 v3 : Value} (h : KBox w B v1 v2 v3) (o : Obj) : KBox (w.alloc o) B v1 v2 v3 := by
  have hl := h.lt
  show (w.heap.push o)[B]? = _
  rw [Array.getElem?_push, if_neg (by omega)]; exact h
theorem KBox.grown {w w' : World} {B : Nat} {v1 v2 v3 : Value} {r : Option Nat} {lo : Nat} (h : KBox w B v1 v2 v3) (hg : w.grownBy w' r) (hr : ∀ q, r = some q → lo ≤ q) (hB : B < lo) : KBox w' B v1 v2 v3 :=
  (hg.block B h.lt (fun e => by have := hr B e.symm; omega)).trans h
end Go.Proofs.Ytamneibnjbimeaa
