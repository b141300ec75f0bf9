/- Codes that are too long for a law. -/
import Derived.Test.YtmidlabgmmejbabCurA
import Derived.Test.YtmidlabgmmejbabRes
namespace Go.Proofs.Ytmidlabgmmejbab
open Go.RowKit
set_option linter.unusedVariables false
theorem bigNo (n c : Nat) (p : Option Addr) (w : World) (hn : n ≤ 65536) :
    Calls Try.prog 26 #[.slice p n c] w fun e w' => e = .returned (.bool false) ∧ w = w' := by
  have h : decide ((65536 : Int) < (n : Int)) = false := decide_eq_false (by omega)
  go_enter Try.func26, Try.ntmps26
  go_wp2_with fail
  go_ret
  exact ⟨rfl, rfl⟩
theorem bigYes (n c : Nat) (p : Option Addr) (w : World) (hn : 65536 < n) (hn2 : n ≤ maxLen) :
    Calls Try.prog 26 #[.slice p n c] w fun e w' => e = .returned (.bool true) ∧ w = w' := by
  have h : decide ((65536 : Int) < (n : Int)) = true := decide_eq_true (by omega)
  go_enter Try.func26, Try.ntmps26
  go_wp2_with fail
  go_ret
  exact ⟨rfl, rfl⟩
end Go.Proofs.Ytmidlabgmmejbab
