/- SecretaryTable: both sides in one form. -/
import Derived.Test.YtnpiciabpgkiiabStbI
import Derived.Test.YtnpiciabpgkiiabStbM
namespace Go.Proofs.Ytnpiciabpgkiiab
set_option linter.unusedVariables false
theorem st_lens (n : Int) : stLenM n = stLen n := rfl
theorem st_lists (n : Int) : stLM n = stL n := by
  unfold stLM stL
  split
  · unfold sL
    simp only [Nat.zero_add, Nat.sub_zero]
    rfl
  · rfl
theorem sectabS2 (n : Int) (w : World) : Calls Try.prog 28 #[.int .i64 n] w (NewQB (stLen n) (stL n) (decide (1 ≤ n ∧ n ≤ 10)) w) := by
  have := sectabS n w
  rw [st_lists, st_lens] at this
  exact this
end Go.Proofs.Ytnpiciabpgkiiab
