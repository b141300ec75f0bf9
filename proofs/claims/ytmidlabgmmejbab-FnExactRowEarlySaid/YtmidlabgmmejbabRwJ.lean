/- RowValue and RowHolding in the program. -/
import Derived.Test.YtmidlabgmmejbabRwI
import Derived.Test.YtmidlabgmmejbabHeldMore
import Derived.Test.YtmidlabgmmejbabPBox

namespace Go.Proofs.Ytmidlabgmmejbab
open Go.RowKit
set_option linter.unusedVariables false
theorem res3_cells {w w3 : World} (b : Below (w.alloc (.cells #[.int .i64 0, .int .i64 0, .int .i64 0] 126)).heap.size (w.alloc (.cells #[.int .i64 0, .int .i64 0, .int .i64 0] 126)) w3) : (w3.cell? ⟨w.heap.size, 0, none⟩ = some (.int .i64 0) ∧ w3.frozen? ⟨w.heap.size, 0, none⟩ = false) ∧ (w3.cell? ⟨w.heap.size, 1, none⟩ = some (.int .i64 0) ∧ w3.frozen? ⟨w.heap.size, 1, none⟩ = false) ∧ (w3.cell? ⟨w.heap.size, 2, none⟩ = some (.int .i64 0) ∧ w3.frozen? ⟨w.heap.size, 2, none⟩ = false) := by
  have k0 := (b.block w.heap.size (by simp)).trans (alloc_heap w (.cells #[.int .i64 0, .int .i64 0, .int .i64 0] 126))
  exact ⟨cell_of_heap (o := 0) k0 rfl, cell_of_heap (o := 1) k0 rfl, cell_of_heap (o := 2) k0 rfl⟩
theorem res3_fin {w w3 : World} {x y z : Value} (b : Below (w.alloc (.cells #[.int .i64 0, .int .i64 0, .int .i64 0] 126)).heap.size (w.alloc (.cells #[.int .i64 0, .int .i64 0, .int .i64 0] 126)) w3) : Below w.heap.size w (((w3.setCell ⟨w.heap.size, 0, none⟩ x).setCell ⟨w.heap.size, 1, none⟩ y).setCell ⟨w.heap.size, 2, none⟩ z) :=
  (((((Below.refl w.heap.size w).alloc (Nat.le_refl _) _).trans (b.mono (by simp))).setCell (p := ⟨w.heap.size, 0, none⟩) (Nat.le_refl _) _).setCell (p := ⟨w.heap.size, 1, none⟩) (Nat.le_refl _) _).setCell (p := ⟨w.heap.size, 2, none⟩) (Nat.le_refl _) _
def valV (n u d : Int) (L : List Int) : Value := if valsOk n u d L = true then .tuple #[.agg #[.int .i64 n, .int .i64 u, .int .i64 d], .bool true] else .tuple #[.agg #[.int .i64 0, .int .i64 0, .int .i64 0], .bool false]
/-- What RowValue returns. -/
def rvV (n u d : Int) (L : List Int) : Value := if valsOk n u d L = true then keptV (cutN (rvT u d n.toNat L) (((u.toNat + d.toNat) ^ n.toNat : Nat) : Int)) (cutD (rvT u d n.toNat L) (((u.toNat + d.toNat) ^ n.toNat : Nat) : Int)) else zeroP
theorem rvV_form (n u d : Int) (L : List Int) : ∃ p q ok, rvV n u d L = .tuple #[.agg #[.int .i64 p, .int .i64 q], .bool ok] := by
  unfold rvV zeroP; split
  · exact keptV_form _ _
  · exact ⟨_, _, _, rfl⟩
/-- What RowHolding returns. -/
def rhX (u d : Int) (k : Nat) (L : List Int) : Int := rvT u d (k - 1) (L.drop 1) - rvT u d (k - 1) (L.take k)
def holdOk (n u d : Int) (L : List Int) : Bool := valsOk n u d L && decide (n ≠ 0)
def rhV (n u d : Int) (L : List Int) : Value := if holdOk n u d L = true then keptV (cutN (rhX u d n.toNat L) (((u.toNat + d.toNat) ^ n.toNat : Nat) : Int)) (cutD (rhX u d n.toNat L) (((u.toNat + d.toNat) ^ n.toNat : Nat) : Int)) else zeroP
theorem rhV_form (n u d : Int) (L : List Int) : ∃ p q ok, rhV n u d L = .tuple #[.agg #[.int .i64 p, .int .i64 q], .bool ok] := by
  unfold rhV zeroP; split
  · exact keptV_form _ _
  · exact ⟨_, _, _, rfl⟩
end Go.Proofs.Ytmidlabgmmejbab
