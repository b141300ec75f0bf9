/- Fractions in the program: lowest terms. -/
import Derived.Test.YtligidmkhbcpmaaPrm
import Derived.Test.YtligidmkhbcpmaaFracI
import Derived.WalkKit
import Derived.ProofKit
import Derived.Outline
import Derived.Below
import Derived.Lib.Hide
import Derived.WalkSmall
import Derived.WalkSpells
import Derived.WalkLawsBesides
import Derived.RegionTactic
import Derived.ChangeAlike
namespace Go.Proofs.Ytligidmkhbcpmaa
open Go.RowKit
set_option linter.unusedVariables false
/-- The pair and true if it is in the bounds, else zeros and false. -/
def keptV (n d : Int) : Value := if inB n d then .tuple #[.agg #[.int .i64 n, .int .i64 d], .bool true] else .tuple #[.agg #[.int .i64 0, .int .i64 0], .bool false]
theorem tdiv_cutN {a b : Int} (h : b ≠ 0) : a.tdiv (gI a b) = cutN a b := by
  unfold cutN; exact Int.tdiv_eq_ediv_of_dvd (gI_dvd_l a b)
theorem tdiv_cutD {a b : Int} (h : b ≠ 0) : b.tdiv (gI a b) = cutD a b := by
  unfold cutD; exact Int.tdiv_eq_ediv_of_dvd (gI_dvd_r a b)
theorem heap_two (w : World) (a b : Obj) : ((w.alloc a).alloc b).heap[w.heap.size]? = some a ∧ ((w.alloc a).alloc b).heap[w.heap.size + 1]? = some b := by
  show ((w.heap.push a).push b)[w.heap.size]? = _ ∧ ((w.heap.push a).push b)[w.heap.size + 1]? = _
  refine ⟨?_, ?_⟩
  · rw [Array.getElem?_push, if_neg (by simp), Array.getElem?_push, if_pos rfl]
  · rw [Array.getElem?_push, if_pos (by simp)]
end Go.Proofs.Ytligidmkhbcpmaa
