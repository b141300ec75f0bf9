/- Stoppings in the model. -/
import Derived.Test.YtagljebfbacdhaaStopP
import Derived.Test.YtagljebfbacdhaaBothS
import Derived.Test.YtagljebfbacdhaaEndsL
import Derived.Test.YtagljebfbacdhaaProcI
import Derived.Test.YtagljebfbacdhaaWayS
namespace Go.Proofs.Ytagljebfbacdhaa
open Go.RowKit
set_option linter.unusedVariables false
theorem NewInts.after {zs : List Int} {w w1 w2 : World} {e : Ending} (h : NewInts zs w1 e w2) (hb : Below w.heap.size w w1) : NewInts zs w e w2 := by
  obtain ⟨v, e, o, b⟩ := h
  exact ⟨v, e, o.low hb.size, hb.trans (b.mono hb.size)⟩
theorem stop_no_end {ps ws ss : List Int} (hg : goodT ps ws = true) {k : Nat} (hk : k < (endsT ps).length) (h : (onW ps ss ((endsT ps).getD k 0).toNat).length ≠ 1) : stopB ps ws ss = false := by
  cases hr : riB ps.length ss
  · unfold stopB; rw [hr]; simp
  · rw [stop_ends hg hr]
    cases ha : (endsT ps).all fun e => decide ((onW ps ss e.toNat).length = 1)
    · rfl
    · rw [List.all_eq_true] at ha
      have hm : (endsT ps).getD k 0 ∈ endsT ps := by rw [List.getD_eq_getElem?_getD, List.getElem?_eq_getElem hk]; exact List.getElem_mem hk
      exact absurd (of_decide_eq_true (ha _ hm)) h
theorem stop_all_ends {ps ws ss : List Int} (hg : goodT ps ws = true) (h : ∀ k, k < (endsT ps).length → (onW ps ss ((endsT ps).getD k 0).toNat).length = 1) : stopB ps ws ss = riB ps.length ss := by
  cases hr : riB ps.length ss
  · unfold stopB; rw [hr]; simp
  · rw [stop_ends hg hr, List.all_eq_true]
    intro e he
    obtain ⟨i, hi, rfl⟩ := mem_getD he
    exact decide_eq_true (h i hi)
theorem ends_node {ps : List Int} {k : Nat} (hk : k < (endsT ps).length) : ∃ x : Nat, (endsT ps).getD k 0 = (x : Int) ∧ x < ps.length ∧ leafB ps x = true := by
  have hm : (endsT ps).getD k 0 ∈ endsT ps := by rw [List.getD_eq_getElem?_getD, List.getElem?_eq_getElem hk]; exact List.getElem_mem hk
  exact nodesW_mem hm
/-- What IsStopping returns. -/
def stopV (ps ws ss : List Int) : Value := .tuple #[.bool (stopB ps ws ss), .bool (goodT ps ws)]
theorem stopV_form (ps ws ss : List Int) : ∃ rx ok, stopV ps ws ss = .tuple #[.bool rx, .bool ok] := ⟨_, _, rfl⟩
end Go.Proofs.Ytagljebfbacdhaa
