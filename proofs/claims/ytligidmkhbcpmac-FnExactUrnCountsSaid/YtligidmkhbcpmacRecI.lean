/- RecordCounts in the program. -/
import Derived.Test.YtligidmkhbcpmacMatI
import Derived.Test.YtligidmkhbcpmacRecP
namespace Go.Proofs.Ytligidmkhbcpmac
open Go.RowKit
set_option linter.unusedVariables false
theorem rec_made {w3 : World} {lo g n : Nat} (hown : w3.ownsRow lo 3 1 (.slice (some ⟨g, 0, none⟩) n n) n (madeCells (Value.int .i64 0).cells (n * 1)).toList) : w3.ownsRow lo 3 1 (.slice (some ⟨g, 0, none⟩) n n) n (List.replicate n (.int .i64 0)) := by
  have h2 := hown
  rw [show (Value.int .i64 0).cells = #[Value.int .i64 0] from rfl, Nat.mul_one, toList_madeCells_one] at h2
  simpa using h2
theorem rep_at {n j : Nat} (h : j < n) : (List.replicate n (0 : Int)).getD j 0 = 0 := by
  rw [List.getD_eq_getElem?_getD, List.getElem?_replicate, if_pos h]
  rfl
end Go.Proofs.Ytligidmkhbcpmac
