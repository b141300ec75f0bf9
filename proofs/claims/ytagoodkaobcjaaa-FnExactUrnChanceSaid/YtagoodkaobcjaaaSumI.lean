/- Sums that go up a tree, in the program. -/
import Derived.Test.YtagoodkaobcjaaaDepthI
import Derived.Test.YtagoodkaobcjaaaSumP
import Derived.RegionTactic
import Derived.ChangeAlike
namespace Go.Proofs.Ytagoodkaobcjaaa
open Go.RowKit
set_option linter.unusedVariables false
/-- What is asked of a part that is handed over: at each end it answers the end's number. -/
def PartI (g : Nat) (lb : Array Value) (ps vals : List Int) (w : World) : Prop :=
  ∀ (W : World) (x : Nat), x < ps.length → leafB ps x = true → Below w.heap.size w W → Calls Try.prog g (#[.int .i64 x] ++ lb) W fun e w' => e = .returned (.int .i64 (vals.getD x 0)) ∧ Below W.heap.size W w'
end Go.Proofs.Ytagoodkaobcjaaa
