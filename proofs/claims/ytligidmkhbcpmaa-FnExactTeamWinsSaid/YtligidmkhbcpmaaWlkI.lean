/- Choices and walks, in the program and in the model. -/
import Derived.Test.YtligidmkhbcpmaaInS
import Derived.Test.YtligidmkhbcpmaaWlkP
import Derived.Deep.LoopGhost
import Derived.Deep.QuietTactic
import Derived.BigQuiet
import Derived.IntWalk
namespace Go.Proofs.Ytligidmkhbcpmaa
open Go.RowKit
set_option linter.unusedVariables false
theorem fromI (x a b : Int) (w : World) : Calls Try.prog 35 #[.int .i64 x, .int .i64 a, .int .i64 b] w fun e w' => e = .returned (.bool (decide (a ≤ x ∧ x ≤ b))) ∧ w = w' := by
  by_cases h1 : a ≤ x
  · by_cases h2 : x ≤ b
    · rw [decide_eq_true ⟨h1, h2⟩]
      go_enter Try.func35, Try.ntmps35
      go_wp2
      go_ret
      exact ⟨rfl, rfl⟩
    · rw [decide_eq_false (fun h => h2 h.2)]
      go_enter Try.func35, Try.ntmps35
      go_wp2
      go_ret
      exact ⟨rfl, rfl⟩
  · rw [decide_eq_false (fun h => h1 h.1)]
    go_enter Try.func35, Try.ntmps35
    go_wp2
    go_ret
    exact ⟨rfl, rfl⟩
theorem chN_step (n k : Nat) (h : k ≤ n) : Int.tdiv ((chN n k : Int) * ((n : Int) - k)) ((k : Int) + 1) = (chN n (k + 1) : Nat) := by
  rw [show (n : Int) - k = ((n - k : Nat) : Int) by omega, ← Int.natCast_mul, Int.tdiv_eq_ediv_of_nonneg (by omega)]
  rfl
theorem chS_step (n k i : Nat) (h : k ≤ n) : Int.tdiv ((chS n k i : Int) * ((n : Int) - k + ((i : Int) + 1))) ((i : Int) + 1) = (chS n k (i + 1) : Nat) := by
  rw [show (n : Int) - k + ((i : Int) + 1) = ((n - k + (i + 1) : Nat) : Int) by omega, ← Int.natCast_mul, Int.tdiv_eq_ediv_of_nonneg (by omega)]
  rfl
end Go.Proofs.Ytligidmkhbcpmaa
