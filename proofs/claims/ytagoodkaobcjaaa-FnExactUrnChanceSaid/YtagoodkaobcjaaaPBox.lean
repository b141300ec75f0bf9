/- Boxes of a fraction. -/
import Derived.Test.YtagoodkaobcjaaaSumsI
import Derived.Test.YtagoodkaobcjaaaNode
import Derived.Test.YtagoodkaobcjaaaFracK
import Derived.Deep.RegionHeld3
namespace Go.Proofs.Ytagoodkaobcjaaa
open Go.RowKit
set_option linter.unusedVariables false
/-- A box of a pair. -/
def PBox (w : World) (R : Nat) (a b : Int) : Prop := w.heap[R]? = some (.cells #[.int .i64 a, .int .i64 b] 32 (0, 0))
theorem PBox.below {w w1 : World} {R C : Nat} {a b : Int} (h : PBox w R a b) (hb : Below C w w1) (hR : R < C) : PBox w1 R a b := (hb.block R hR).trans h
theorem PBox.lt {w : World} {R : Nat} {a b : Int} (h : PBox w R a b) : R < w.heap.size := by unfold PBox at h; exact (Array.getElem?_eq_some_iff.1 h).1
theorem PBox.cells {w : World} {R : Nat} {a b : Int} (h : PBox w R a b) : w.cell? ⟨R, 0, none⟩ = some (.int .i64 a) ∧ w.cell? ⟨R, 1, none⟩ = some (.int .i64 b) ∧ w.frozen? ⟨R, 0, none⟩ = false ∧ w.frozen? ⟨R, 1, none⟩ = false :=
  ⟨(cell_of_heap (o := 0) h rfl).1, (cell_of_heap (o := 1) h rfl).1, (cell_of_heap (o := 0) h rfl).2, (cell_of_heap (o := 1) h rfl).2⟩
theorem bnext {V a b : World} (h : Below V.heap.size V a) (k : Below a.heap.size a b) : Below V.heap.size V b := h.trans (k.mono h.size)
theorem bundrew {a b : World} (h : Below a.drew.heap.size a.drew b) : Below a.heap.size a b := ⟨h.os, h.tape, h.output, h.size, h.block⟩
theorem far2 {X : World} {g R o : Nat} {a b : Value} (h : g ≠ R) : ((X.setCell ⟨R, 0, none⟩ a).setCell ⟨R, 1, none⟩ b).cell? ⟨g, o, none⟩ = X.cell? ⟨g, o, none⟩ := by
  rw [World.cell?_setCell_other _ _ _ _ (by simp), World.cell?_setCell_other _ _ _ _ (by simp)]
/-- What ChanceOf returns. -/
theorem kept_small {a b : Int} (ha : -1000000 ≤ a ∧ a ≤ 1000000) (hb : 0 < b ∧ b ≤ 1000000) : keptV (cutN a b) (cutD a b) = .tuple #[.agg #[.int .i64 (cutN a b), .int .i64 (cutD a b)], .bool true] := by
  have h1 := abs_cutN (a := a) (b := b) 1000000 ha (by omega)
  have h2 := cutD_le (a := a) hb.1
  have h3 := cutD_pos (a := a) hb.1
  unfold keptV
  rw [if_pos (by unfold inB; simp; omega)]
end Go.Proofs.Ytagoodkaobcjaaa
