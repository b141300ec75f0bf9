/- LeadCounts in the model. -/
import Derived.Test.YtfpckfameebdnabCouI
import Derived.Test.YtfpckfameebdnabLawI
namespace Go.Proofs.Ytfpckfameebdnab
open Go.RowKit
set_option linter.unusedVariables false

set_option maxRecDepth 100000 in
set_option maxHeartbeats 2000000 in
theorem evenS (m : Int) (w : World) : Calls Try.prog 53 #[.int .i64 m] w (QR (.bool (okE m)) w) := by
  have F := Lib.hid (fun w => inS m 0 30 w)
  by_cases h1 : 0 ≤ m ∧ m ≤ 30
  · rw [decide_eq_true h1] at F
    obtain ⟨a, b⟩ := h1
    have T : Int.tmod m 2 = m % 2 := Int.tmod_eq_emod_of_nonneg a
    by_cases h2 : m % 2 = 0
    · rw [show okE m = true from decide_eq_true ⟨⟨a, b⟩, h2⟩]
      go_enter Try.func53, Try.ntmps53
      go_wp2_with fail
      refine (F.out _).mono ?_
      rintro e w1 ⟨rfl, rfl⟩
      go_wp2_with fail
      go_ret
      exact ⟨by first | rfl | simp [h2] | (rw [T]; simp [h2]), rfl⟩
    · rw [show okE m = false from decide_eq_false (fun h => h2 h.2)]
      go_enter Try.func53, Try.ntmps53
      go_wp2_with fail
      refine (F.out _).mono ?_
      rintro e w1 ⟨rfl, rfl⟩
      go_wp2_with fail
      go_ret
      exact ⟨by first | rfl | simp [h2] | (rw [T]; simp [h2]), rfl⟩
  · rw [decide_eq_false h1] at F
    rw [show okE m = false from decide_eq_false (fun h => h1 h.1)]
    clear h1
    go_enter Try.func53, Try.ntmps53
    go_wp2_with fail
    refine (F.out _).mono ?_
    rintro e w1 ⟨rfl, rfl⟩
    go_wp2_with fail
    go_ret
    exact ⟨rfl, rfl⟩

end Go.Proofs.Ytfpckfameebdnab
