/- Fractions in the program: the model's comparison, and what two numbers make. -/
import Derived.Test.YtnpiciabpgkiiadFracK
import Derived.Test.YtnpiciabpgkiiadFracC
import Derived.Test.YtnpiciabpgkiiadFracO
import Derived.WalkKit
import Derived.ProofKit
import Derived.Outline
import Derived.Below
import Derived.Lib.Hide
import Derived.WalkSmall
import Derived.WalkSpells
import Derived.WalkLawsBesides
import Derived.IntWalk
namespace Go.Proofs.Ytnpiciabpgkiiad
open Go.RowKit
set_option linter.unusedVariables false
set_option maxHeartbeats 1000000 in
theorem lessS (n d m e : Int) (w : World) (hn : -1000000000 ≤ n ∧ n ≤ 1000000000) (hd : 1 ≤ d ∧ d ≤ 1000000) (hm : -1000000000 ≤ m ∧ m ≤ 1000000000) (he : 1 ≤ e ∧ e ≤ 1000000) :
    Calls Try.prog 136 #[.agg #[.int .i64 n, .int .i64 d], .agg #[.int .i64 m, .int .i64 e]] w (Gives (.bool (decide (n * e < m * d))) w) := by
  have q1 := mul_bd (x := n) (y := e) 1000000000 1000000 (by omega) (by omega)
  have q2 := mul_bd (x := m) (y := d) 1000000000 1000000 (by omega) (by omega)
  obtain ⟨q1a, q1b⟩ : -1000000000000000 ≤ n * e ∧ n * e ≤ 1000000000000000 := by omega
  obtain ⟨q2a, q2b⟩ : -1000000000000000 ≤ m * d ∧ m * d ≤ 1000000000000000 := by omega
  clear q1 q2 hn hd hm he
  have B := blocks2_below w n d m e
  go_enter Try.func136, Try.ntmps136
  go_wp2_with fail
  go_ret
  exact ⟨rfl, B⟩
end Go.Proofs.Ytnpiciabpgkiiad
