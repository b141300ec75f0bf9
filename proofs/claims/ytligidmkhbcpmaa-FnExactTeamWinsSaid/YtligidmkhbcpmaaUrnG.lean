/- Rows by their blocks; numbers that grow, products and joined rows, in the program. -/
import Derived.Test.YtligidmkhbcpmaaUrnP
import Derived.Test.YtligidmkhbcpmaaRecI
import Derived.Test.YtligidmkhbcpmaaRes
import Derived.Test.YtligidmkhbcpmaaInS
import Derived.Lib.AppendZeros
import Derived.Lib.SliceRun
import Derived.Deep.RegionHeld3
import Derived.Deep.DeepCutAuto
import Derived.Deep.LoopGhost
namespace Go.Proofs.Ytligidmkhbcpmaa
open Go.RowKit
set_option linter.unusedVariables false
/-- A row of ints in a block. -/
structure RowB (W : World) (b : Nat) (L : List Int) : Prop where
  lt : b < W.heap.size
  cell : ∀ j, j < L.length → W.cell? ⟨b, j, none⟩ = some (.int .i64 (L.getD j 0))
  thaw : ∀ j, j < L.length → W.frozen? ⟨b, j, none⟩ = false
theorem RowB.keep {W W' : World} {b : Nat} {L : List Int} (h : RowB W b L) (hb : W'.heap[b]? = W.heap[b]?) (hs : W.heap.size ≤ W'.heap.size) : RowB W' b L := by
  refine ⟨Nat.lt_of_lt_of_le h.lt hs, fun j hj => ?_, fun j hj => ?_⟩
  · rw [World.cell?_of_block hb]; exact h.cell j hj
  · have := h.thaw j hj
    unfold World.frozen? at this ⊢
    simp only [hb]; exact this
theorem RowB.below {W W' : World} {b C : Nat} {L : List Int} (h : RowB W b L) (hb : Below C W W') (hC : b < C) : RowB W' b L := h.keep (hb.block b hC) hb.size
theorem RowB.next {W W' : World} {b : Nat} {L : List Int} (h : RowB W b L) (hb : Below W.heap.size W W') : RowB W' b L := h.below hb h.lt
theorem RowB.al {W : World} {b : Nat} {L : List Int} (h : RowB W b L) (o : Obj) : RowB (W.alloc o) b L := h.next ((Below.refl W.heap.size W).alloc (Nat.le_refl _) o)
theorem RowB.drew {W : World} {b : Nat} {L : List Int} (h : RowB W b L) : RowB W.drew b L := h.keep rfl (Nat.le_refl _)
theorem RowB.far {W : World} {b g o : Nat} {L : List Int} {v : Value} (h : RowB W b L) (hg : b ≠ g) : RowB (W.setCell ⟨g, o, none⟩ v) b L := by
  refine ⟨by simpa [World.setCell] using h.lt, fun j hj => ?_, fun j hj => ?_⟩
  · rw [World.cell?_setCell_other _ _ _ _ (by intro e; injection e with e1; exact hg e1.symm)]; exact h.cell j hj
  · rw [World.frozen?_setCell]; exact h.thaw j hj
theorem RowB.set {W : World} {b i : Nat} {L : List Int} {x : Int} (h : RowB W b L) (hi : i < L.length) : RowB (W.setCell ⟨b, i, none⟩ (.int .i64 x)) b (L.set i x) := by
  refine ⟨by simpa [World.setCell] using h.lt, fun j hj => ?_, fun j hj => ?_⟩
  · rw [List.length_set] at hj
    rw [getD_set]
    by_cases e : i = j
    · subst e
      rw [if_pos ⟨rfl, hj⟩]
      exact World.cell?_setCell_same _ _ _ (h.cell i hj)
    · rw [if_neg (fun e2 => e e2.1), World.cell?_setCell_other _ _ _ _ (by intro e2; injection e2 with e1 e3; exact e (by omega))]
      exact h.cell j hj
  · rw [List.length_set] at hj
    rw [World.frozen?_setCell]; exact h.thaw j hj
theorem OwnV.rowB {w : World} {lo hi b n c : Nat} {L : List Int} (h : OwnV w lo hi (.slice (some ⟨b, 0, none⟩) n c) L) : RowB w b L := by
  have hb : b < hi := h.lt b rfl
  exact ⟨Nat.lt_of_lt_of_le hb h.room, fun j hj => h.cellGet hj, fun j _ => h.frozenGet j⟩
theorem RowB.one (w : World) (x : Int) : RowB (w.alloc (.cells #[.int .i64 x] 3)) w.heap.size [x] := by
  have k := alloc_heap w (.cells #[.int .i64 x] 3)
  refine ⟨by simp, fun j hj => ?_, fun j hj => ?_⟩
  · obtain rfl : j = 0 := by simp at hj; exact hj
    exact (cell_of_heap (o := 0) k rfl).1
  · obtain rfl : j = 0 := by simp at hj; exact hj
    exact (cell_of_heap (o := 0) k rfl).2
/-- What a call answers that makes a row: the row in a block of its own. -/
def NewB (L : List Int) (w : World) (e : Ending) (w' : World) : Prop :=
  ∃ b c, e = .returned (.slice (some ⟨b, 0, none⟩) L.length c) ∧ w.heap.size ≤ b ∧ RowB w' b L ∧ Below w.heap.size w w'
/-- Numbers that grow. -/
def grF (a x : Int) : Nat → Int := fun i => a + (i : Int) * x
theorem wrap_mul (a b : Int) : IntKind.i64.wrap (IntKind.i64.wrap a * b) = IntKind.i64.wrap (a * b) := by
  rw [IntKind.wrap_i64, IntKind.wrap_i64, IntKind.wrap_i64]
  obtain ⟨q, hq⟩ : ∃ q : Int, (a + 9223372036854775808) % 18446744073709551616 - 9223372036854775808 = a + q * 18446744073709551616 := ⟨-((a + 9223372036854775808) / 18446744073709551616), by omega⟩
  rw [hq, Int.add_mul, Int.mul_assoc, Int.mul_comm 18446744073709551616 b, ← Int.mul_assoc]
  omega
end Go.Proofs.Ytligidmkhbcpmaa
