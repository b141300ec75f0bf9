/- A result that is a pair: its block while the call runs. -/
import Derived.Test.YtligidmkhbcpmacPrm
namespace Go.Proofs.Ytligidmkhbcpmac
open Go.RowKit
set_option linter.unusedVariables false
theorem rs_cells {w w3 : World} (b : Below (w.alloc (.cells #[.int .i64 0, .int .i64 0] 26)).heap.size (w.alloc (.cells #[.int .i64 0, .int .i64 0] 26)) w3) : (w3.cell? ⟨w.heap.size, 0, none⟩ = some (.int .i64 0) ∧ w3.frozen? ⟨w.heap.size, 0, none⟩ = false) ∧ (w3.cell? ⟨w.heap.size, 1, none⟩ = some (.int .i64 0) ∧ w3.frozen? ⟨w.heap.size, 1, none⟩ = false) := by
  have k0 := (b.block w.heap.size (by simp)).trans (alloc_heap w (.cells #[.int .i64 0, .int .i64 0] 26))
  exact ⟨cell_of_heap (o := 0) k0 rfl, cell_of_heap (o := 1) k0 rfl⟩
theorem rs_fin {w w3 : World} {x y : Value} (b : Below (w.alloc (.cells #[.int .i64 0, .int .i64 0] 26)).heap.size (w.alloc (.cells #[.int .i64 0, .int .i64 0] 26)) w3) : Below w.heap.size w ((w3.setCell ⟨w.heap.size, 0, none⟩ x).setCell ⟨w.heap.size, 1, none⟩ y) :=
  ((((Below.refl w.heap.size w).alloc (Nat.le_refl _) _).trans (b.mono (by simp))).setCell (p := ⟨w.heap.size, 0, none⟩) (Nat.le_refl _) _).setCell (p := ⟨w.heap.size, 1, none⟩) (Nat.le_refl _) _
theorem rs_same {w w3 : World} (b : Below (w.alloc (.cells #[.int .i64 0, .int .i64 0] 26)).heap.size (w.alloc (.cells #[.int .i64 0, .int .i64 0] 26)) w3) : Below w.heap.size w w3 :=
  ((Below.refl w.heap.size w).alloc (Nat.le_refl _) _).trans (b.mono (by simp))
theorem bl_self (w : World) (o : Obj) : Below (w.alloc o).heap.size (w.alloc o) (w.alloc o) := Below.refl _ _
theorem bl_then {V w1 w2 : World} (h : Below V.heap.size V w1) (b : Below w1.heap.size w1 w2) : Below V.heap.size V w2 := h.trans (b.mono h.size)
theorem bl_box {V w1 w2 : World} {o : Obj} (h : Below V.heap.size V w1) (b : Below (w1.alloc o).heap.size (w1.alloc o) w2) : Below V.heap.size V w2 :=
  (h.alloc h.size o).trans (b.mono (by have := h.size; simp; omega))
/-- From a box of zeros laid at once on down to the world before it. -/
theorem bl_up {w w1 : World} {o : Obj} (h : Below (w.alloc o).heap.size (w.alloc o) w1) : Below w.heap.size w w1 := ((Below.refl w.heap.size w).alloc (Nat.le_refl _) o).trans (h.mono (by simp))
theorem un_drew {a b : World} (h : Below a.drew.heap.size a.drew b) : Below a.heap.size a b := ⟨h.os, h.tape, h.output, h.size, h.block⟩
theorem far_2 {X : World} {g R o : Nat} {a b : Value} (h : g ≠ R) : ((X.setCell ⟨R, 0, none⟩ a).setCell ⟨R, 1, none⟩ b).cell? ⟨g, o, none⟩ = X.cell? ⟨g, o, none⟩ := by
  rw [World.cell?_setCell_other _ _ _ _ (by simp), World.cell?_setCell_other _ _ _ _ (by simp)]
/-- A box of a pair. -/
def QBox (w : World) (R : Nat) (a b : Int) : Prop := w.heap[R]? = some (.cells #[.int .i64 a, .int .i64 b] 26 (0, 0))
theorem QBox.below {w w1 : World} {R C : Nat} {a b : Int} (h : QBox w R a b) (hb : Below C w w1) (hR : R < C) : QBox w1 R a b := (hb.block R hR).trans h
theorem QBox.lt {w : World} {R : Nat} {a b : Int} (h : QBox w R a b) : R < w.heap.size := by unfold QBox at h; exact (Array.getElem?_eq_some_iff.1 h).1
theorem QBox.cells {w : World} {R : Nat} {a b : Int} (h : QBox w R a b) : (w.cell? ⟨R, 0, none⟩ = some (.int .i64 a) ∧ w.cell? ⟨R, 1, none⟩ = some (.int .i64 b)) ∧ (w.frozen? ⟨R, 0, none⟩ = false ∧ w.frozen? ⟨R, 1, none⟩ = false) :=
  ⟨⟨(cell_of_heap (o := 0) h rfl).1, (cell_of_heap (o := 1) h rfl).1⟩, (cell_of_heap (o := 0) h rfl).2, (cell_of_heap (o := 1) h rfl).2⟩
theorem QBox.new (w : World) (a b : Int) : QBox (w.alloc (.cells #[.int .i64 a, .int .i64 b] 26)) w.heap.size a b := alloc_heap w _
theorem QBox.st0 {w : World} {R : Nat} {a b : Int} (h : QBox w R a b) (x : Int) : QBox (w.setCell ⟨R, 0, none⟩ (.int .i64 x)) R x b := by
  unfold QBox at h ⊢
  simp [World.setCell, Array.getElem?_modify, h]
theorem QBox.st1 {w : World} {R : Nat} {a b : Int} (h : QBox w R a b) (x : Int) : QBox (w.setCell ⟨R, 1, none⟩ (.int .i64 x)) R a x := by
  unfold QBox at h ⊢
  simp [World.setCell, Array.getElem?_modify, h]
theorem QBox.st {w : World} {R : Nat} {a b : Int} (h : QBox w R a b) (x y : Int) : QBox ((w.setCell ⟨R, 0, none⟩ (.int .i64 x)).setCell ⟨R, 1, none⟩ (.int .i64 y)) R x y := (h.st0 x).st1 y
theorem QBox.far {w : World} {R g o : Nat} {a b : Int} {x : Value} (h : QBox w R a b) (hg : R ≠ g) : QBox (w.setCell ⟨g, o, none⟩ x) R a b := by
  unfold QBox at h ⊢
  simp only [World.setCell, Array.getElem?_modify]
  rw [if_neg (fun e => hg e.symm)]
  exact h
theorem bl_st {V w : World} {g : Nat} (h : Below V.heap.size V w) (hg : V.heap.size ≤ g) (x y : Value) : Below V.heap.size V ((w.setCell ⟨g, 0, none⟩ x).setCell ⟨g, 1, none⟩ y) := (h.setCell (p := ⟨g, 0, none⟩) hg x).setCell (p := ⟨g, 1, none⟩) hg y
end Go.Proofs.Ytligidmkhbcpmac
