/- Throws up to the one at which a word is found. -/
import Derived.Test.YtligidmkhbcpmaaShwP
namespace Go.Proofs.Ytligidmkhbcpmaa
open Go.RowKit
set_option linter.unusedVariables false
/-- How many throws are needed, from m on, with so many tries left; all of them if the word is not found. -/
def utK (bs zs : List Int) : Nat → Nat → Nat
  | _, 0 => zs.length
  | m, k + 1 => if (zs.take m).drop (m - bs.length) = bs then m else utK bs zs (m + 1) k
theorem utK_le (bs zs : List Int) : ∀ k m, m + k ≤ zs.length + 1 → utK bs zs m k ≤ zs.length
  | 0, m, _ => Nat.le_refl _
  | k + 1, m, h => by
      unfold utK
      split
      · omega
      · exact utK_le bs zs k (m + 1) (by omega)
def utN (bs zs : List Int) : Nat := utK bs zs bs.length (zs.length + 1 - bs.length)
theorem utN_le (bs zs : List Int) (h : bs.length ≤ zs.length + 1) : utN bs zs ≤ zs.length := utK_le _ _ _ _ (by omega)
/-- From place m on. -/
def utM (bs zs : List Int) (m : Nat) : Nat := utK bs zs m (zs.length + 1 - m)
theorem utM_at {bs zs : List Int} {m : Nat} (h : m ≤ zs.length) : utM bs zs m = if (zs.take m).drop (m - bs.length) = bs then m else utM bs zs (m + 1) := by
  unfold utM
  rw [show zs.length + 1 - m = (zs.length + 1 - (m + 1)) + 1 by omega]
  rfl
theorem utM_end {bs zs : List Int} {m : Nat} (h : zs.length < m) : utM bs zs m = zs.length := by
  unfold utM
  rw [show zs.length + 1 - m = 0 by omega]
  rfl
theorem utM_le {bs zs : List Int} {m : Nat} : utM bs zs m ≤ zs.length := by
  rcases Nat.lt_or_ge zs.length m with h | h
  · rw [utM_end h]; exact Nat.le_refl _
  · exact utK_le _ _ _ _ (by omega)
def utL (bs zs : List Int) : List Int := zs.take (utM bs zs bs.length)
theorem utL_len (bs zs : List Int) : (utL bs zs).length = utM bs zs bs.length := by unfold utL; rw [List.length_take]; exact Nat.min_eq_left utM_le
theorem utL_le (bs zs : List Int) : (utL bs zs).length ≤ zs.length := by rw [utL_len]; exact utM_le
theorem utL_mem {bs zs : List Int} {z : Int} (h : z ∈ utL bs zs) : z ∈ zs := List.mem_of_mem_take h
/-- What a team has behind the throws. -/
def tmOk (f : Int) (bs zs : List Int) : Bool := wdOk f bs && (decide (zs.length ≤ 8) && facOk f zs)
def tmV (f : Int) (bs zs : List Int) : Int := if tmOk f bs zs = true then (wsN f.toNat (utL bs zs) bs : Nat) else 0
end Go.Proofs.Ytligidmkhbcpmaa
