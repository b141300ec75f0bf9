/- Fair and falling processes, told by lists; what is asked of tests of drifts. -/
import Derived.Test.YtligidmkhbcpmacDriP
namespace Go.Proofs.Ytligidmkhbcpmac
open Go.RowKit
set_option linter.unusedVariables false
/-- Whether the numerator of a drift serves. -/
def steP (fair : Bool) (z : Int) : Bool := if fair = true then z == 0 else decide (z ≤ 0)
def steB (ps ws zs : List Int) (fair : Bool) : Bool := (List.range ps.length).all fun x => steP fair (driA ps ws zs x)
def steV (ps ws zs : List Int) (fair : Bool) : Value := .tuple #[.bool (procB ps ws zs && steB ps ws zs fair), .bool (procB ps ws zs)]
theorem steV_form (ps ws zs : List Int) (fair : Bool) : ∃ rx ok, steV ps ws zs fair = .tuple #[.bool rx, .bool ok] := ⟨_, _, rfl⟩
theorem steB_yes {ps ws zs : List Int} {fair : Bool} (h : ∀ x, x < ps.length → steP fair (driA ps ws zs x) = true) : steB ps ws zs fair = true := by
  unfold steB
  rw [List.all_eq_true]
  intro x hx
  exact h x (List.mem_range.1 hx)
theorem steB_no {ps ws zs : List Int} {fair : Bool} {x : Nat} (hx : x < ps.length) (h : steP fair (driA ps ws zs x) = false) : steB ps ws zs fair = false := by
  cases hb : steB ps ws zs fair
  · rfl
  · unfold steB at hb
    rw [List.all_eq_true] at hb
    rw [hb x (List.mem_range.2 hx)] at h
    cases h
theorem ste_any (ps ws zs : List Int) (fair : Bool) : ((List.range ps.length).any fun x => !steP fair (driA ps ws zs x)) = !steB ps ws zs fair := by
  unfold steB
  rw [List.not_all_eq_any_not]
theorem steV_no {ps ws zs : List Int} {fair : Bool} (h : procB ps ws zs = false) : steV ps ws zs fair = .tuple #[.bool false, .bool false] := by
  unfold steV; rw [h]; rfl
theorem steV_ok {ps ws zs : List Int} {fair : Bool} (h : procB ps ws zs = true) : steV ps ws zs fair = .tuple #[.bool (steB ps ws zs fair), .bool true] := by
  unfold steV; rw [h]; rfl
theorem anyR_hit {n k : Nat} {p : Nat → Bool} (hk : k < n) (h : p k = true) : (List.range n).any p = true := List.any_eq_true.2 ⟨k, List.mem_range.2 hk, h⟩
theorem anyR_miss {n : Nat} {p : Nat → Bool} (h : ∀ j, j < n → p j = false) : (List.range n).any p = false := by
  rw [List.any_eq_false]
  intro j hj
  rw [h j (List.mem_range.1 hj)]; decide
end Go.Proofs.Ytligidmkhbcpmac
