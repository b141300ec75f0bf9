/- What the laws of fractions lean on: pairs in blocks beside calls. -/
import Derived.Test.YtfnnlkbecnjloaaFracV
import Derived.Test.YtfnnlkbecnjloaaFracW
import Derived.Test.YtfnnlkbecnjloaaPairH
import Derived.Test.YtfnnlkbecnjloaaOpenP
namespace Go.Proofs.Ytfnnlkbecnjloaa
open Go.RowKit
set_option linter.unusedVariables false
theorem fracV_form (a b : Int) : ∃ p q ok, fracV a b = .tuple #[.agg #[.int .i64 p, .int .i64 q], .bool ok] := by
  unfold fracV zeroP
  split
  · split <;> exact keptV_form _ _
  · exact ⟨_, _, _, rfl⟩
theorem addV_form (n d m e : Int) : ∃ p q ok, addV n d m e = .tuple #[.agg #[.int .i64 p, .int .i64 q], .bool ok] := by
  unfold addV zeroP
  split
  · exact keptV_form _ _
  · exact ⟨_, _, _, rfl⟩
theorem timesV_form (n d m e : Int) : ∃ p q ok, timesV n d m e = .tuple #[.agg #[.int .i64 p, .int .i64 q], .bool ok] := by
  unfold timesV zeroP
  split
  · exact keptV_form _ _
  · exact ⟨_, _, _, rfl⟩
theorem cmpV_form (n d m e : Int) : ∃ o ok, cmpV n d m e = .tuple #[.int .i64 o, .bool ok] := by
  unfold cmpV
  split
  · exact ⟨_, _, rfl⟩
  · exact ⟨_, _, rfl⟩
theorem pair_cells {w w1 : World} {a b : Int} (hb : Below (w.alloc (.cells #[.int .i64 a, .int .i64 b] 22)).heap.size (w.alloc (.cells #[.int .i64 a, .int .i64 b] 22)) w1) :
    w1.cell? ⟨w.heap.size, 0, none⟩ = some (.int .i64 a) ∧ w1.cell? ⟨w.heap.size, 1, none⟩ = some (.int .i64 b) := by
  have k := (hb.block w.heap.size (by simp)).trans (heap_one w (.cells #[.int .i64 a, .int .i64 b] 22))
  exact ⟨(cell_of_heap (o := 0) k rfl).1, (cell_of_heap (o := 1) k rfl).1⟩
/-- The cells of the two boxes. -/
theorem S2_of {w W : World} {n d m e : Int} (K : ∀ w1, Below W.heap.size W w1 → Cells2 w w1 n d m e) {w' : World} (h : Below W.heap.size W w') :
    w'.cell? ⟨w.heap.size, 0, none⟩ = some (.int .i64 n) ∧ w'.cell? ⟨w.heap.size, 1, none⟩ = some (.int .i64 d) ∧ w'.cell? ⟨w.heap.size + 1, 0, none⟩ = some (.int .i64 m) ∧ w'.cell? ⟨w.heap.size + 1, 1, none⟩ = some (.int .i64 e) ∧ Below W.heap.size W w' :=
  ⟨(K _ h).a0, (K _ h).a1, (K _ h).b0, (K _ h).b1, h⟩
theorem pair_st0 {X : World} {g : Nat} {u a b : Value} (h : X.cell? ⟨g, 0, none⟩ = some u) : ((X.setCell ⟨g, 0, none⟩ a).setCell ⟨g, 1, none⟩ b).cell? ⟨g, 0, none⟩ = some a := by
  rw [World.cell?_setCell_other _ _ _ _ (by simp)]; exact World.cell?_setCell_same X _ _ h
theorem pair_st1 {X : World} {g : Nat} {u a b : Value} (h : X.cell? ⟨g, 1, none⟩ = some u) : ((X.setCell ⟨g, 0, none⟩ a).setCell ⟨g, 1, none⟩ b).cell? ⟨g, 1, none⟩ = some b := by
  refine World.cell?_setCell_same _ _ _ (u := u) ?_
  rw [World.cell?_setCell_other _ _ _ _ (by simp)]; exact h
theorem size_rule {Wc w1 : World} (h : Below Wc.heap.size Wc w1) : ∀ n, n < Wc.heap.size → n < w1.heap.size := fun n hn => Nat.lt_of_lt_of_le hn h.size
end Go.Proofs.Ytfnnlkbecnjloaa
