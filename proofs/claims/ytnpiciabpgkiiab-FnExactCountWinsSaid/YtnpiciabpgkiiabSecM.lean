/- The chances of rules for people, in the model. -/
import Derived.Test.YtnpiciabpgkiiabSecI
import Derived.Test.YtnpiciabpgkiiabFracU
import Derived.Test.YtnpiciabpgkiiabFracW
import Derived.Deep.RegionHeld3
namespace Go.Proofs.Ytnpiciabpgkiiab
open Go.RowKit
set_option linter.unusedVariables false
theorem hm_cut {r j : Nat} (hr : 1 ≤ r) (h : r + j + 1 ≤ 10) (w : World) :
    Calls Try.prog 63 #[.agg #[.int .i64 (hmP r j).1, .int .i64 (hmP r j).2], .agg #[.int .i64 1, .int .i64 ((r + j : Nat) : Int)]] w (Gives (.agg #[.int .i64 (hmP r (j + 1)).1, .int .i64 (hmP r (j + 1)).2]) w) := by
  have a := hm_ok2 r (by omega) j (by omega) hr (by omega)
  have b := hm_ok3 r (by omega) j (by omega) hr (by omega)
  exact addS _ _ _ _ w (by omega) (by omega) (by omega) (by omega)
theorem peopleS (n : Int) (w : World) : Calls Try.prog 60 #[.int .i64 n] w fun e w' => e = .returned (.bool (decide (1 ≤ n ∧ n ≤ 10))) ∧ w = w' := by
  have I := Lib.hid (fun w => inS n 1 10 w)
  generalize decide (1 ≤ n ∧ n ≤ 10) = bb at *
  go_enter Try.func60, Try.ntmps60
  go_wp2_with fail
  refine (I.out _).mono ?_
  rintro e w1 ⟨rfl, rfl⟩
  go_wp2_with fail
  go_ret
  exact ⟨rfl, rfl⟩
end Go.Proofs.Ytnpiciabpgkiiab
