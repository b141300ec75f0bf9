/- RecordCounts in the model. -/
import Derived.Test.YtligidmkhbcpmacRecI
namespace Go.Proofs.Ytligidmkhbcpmac
open Go.RowKit
set_option linter.unusedVariables false
theorem OwnV.oneR (w : World) (lo : Nat) (x : Int) (hlo : lo ≤ w.heap.size) (hx : InI64 x) : OwnV (w.alloc (.cells #[.int .i64 x] 3)) lo (w.alloc (.cells #[.int .i64 x] 3)).heap.size (.slice (some ⟨w.heap.size, 0, none⟩) 1 1) [x] := by
  refine ⟨⟨rfl, .inr ⟨w.heap.size, 1, #[.int .i64 x], rfl, hlo, alloc_heap w _, by simp, by unfold maxLen; omega, rfl, rfl⟩⟩, ?_, Nat.le_refl _, ?_⟩
  · intro q hq
    simp [Value.ownBlock] at hq
    subst hq
    simp
  · intro z hz; simp at hz; subst hz; exact hx
end Go.Proofs.Ytligidmkhbcpmac
