/- The nodes that a test takes, and ends, in the program. -/
import Derived.Test.YtligidmkhbcpmaaGoodS
import Derived.Shelf.SlicesQ.IndexFunc
namespace Go.Proofs.Ytligidmkhbcpmaa
open Go.RowKit
set_option linter.unusedVariables false
/-- What is asked of a test that is handed over: at each node it answers, in every world in which all that lay lies. -/
def PredI (g : Nat) (lb : Array Value) (p : Nat → Bool) (n : Nat) (w : World) : Prop :=
  ∀ (W : World) (x : Nat), x < n → Below w.heap.size w W → Calls Try.prog g (#[.int .i64 x] ++ lb) W fun e w' => e = .returned (.bool (p x)) ∧ Below W.heap.size W w'
end Go.Proofs.Ytligidmkhbcpmaa
