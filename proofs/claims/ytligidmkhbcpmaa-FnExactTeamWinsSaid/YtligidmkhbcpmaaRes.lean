/- A result that is a pair: its block while the call runs. -/
import Derived.Test.YtligidmkhbcpmaaPrm
namespace Go.Proofs.Ytligidmkhbcpmaa
open Go.RowKit
set_option linter.unusedVariables false
theorem bl_self (w : World) (o : Obj) : Below (w.alloc o).heap.size (w.alloc o) (w.alloc o) := Below.refl _ _
theorem bl_then {V w1 w2 : World} (h : Below V.heap.size V w1) (b : Below w1.heap.size w1 w2) : Below V.heap.size V w2 := h.trans (b.mono h.size)
theorem bl_box {V w1 w2 : World} {o : Obj} (h : Below V.heap.size V w1) (b : Below (w1.alloc o).heap.size (w1.alloc o) w2) : Below V.heap.size V w2 :=
  (h.alloc h.size o).trans (b.mono (by have := h.size; simp; omega))
/-- From a box of zeros laid at once on down to the world before it. -/
theorem bl_up {w w1 : World} {o : Obj} (h : Below (w.alloc o).heap.size (w.alloc o) w1) : Below w.heap.size w w1 := ((Below.refl w.heap.size w).alloc (Nat.le_refl _) o).trans (h.mono (by simp))
theorem un_drew {a b : World} (h : Below a.drew.heap.size a.drew b) : Below a.heap.size a b := ⟨h.os, h.tape, h.output, h.size, h.block⟩
theorem far_2 {X : World} {g R o : Nat} {a b : Value} (h : g ≠ R) : ((X.setCell ⟨R, 0, none⟩ a).setCell ⟨R, 1, none⟩ b).cell? ⟨g, o, none⟩ = X.cell? ⟨g, o, none⟩ := by
  rw [World.cell?_setCell_other _ _ _ _ (by simp), World.cell?_setCell_other _ _ _ _ (by simp)]
theorem bl_st {V w : World} {g : Nat} (h : Below V.heap.size V w) (hg : V.heap.size ≤ g) (x y : Value) : Below V.heap.size V ((w.setCell ⟨g, 0, none⟩ x).setCell ⟨g, 1, none⟩ y) := (h.setCell (p := ⟨g, 0, none⟩) hg x).setCell (p := ⟨g, 1, none⟩) hg y
end Go.Proofs.Ytligidmkhbcpmaa
