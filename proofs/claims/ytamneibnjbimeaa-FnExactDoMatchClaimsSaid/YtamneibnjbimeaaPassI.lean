/- What is passed down a tree, in the program. -/
import Derived.Test.YtamneibnjbimeaaLawT
import Derived.Test.YtamneibnjbimeaaPassP
import Derived.Test.YtamneibnjbimeaaDepthI
import Derived.Test.YtamneibnjbimeaaWayS
namespace Go.Proofs.Ytamneibnjbimeaa
open Go.RowKit
set_option linter.unusedVariables false
/-- What is asked of a step that is handed over: at each node it makes the node's number of what the node has from above. -/
def PassI (g : Nat) (lb : Array Value) (ps : List Int) (a0 : Int) (T : List Int) (w : World) : Prop :=
  ∀ (W : World) (x : Nat), x < ps.length → Below w.heap.size w W → Calls Try.prog g (#[.int .i64 (abv ps a0 T x), .int .i64 x] ++ lb) W fun e w' => e = .returned (.int .i64 (T.getD x 0)) ∧ Below W.heap.size W w'
theorem take_next {T : List Int} {k : Nat} (h : k < T.length) : T.take (k + 1) = T.take k ++ [T.getD k 0] := by
  rw [List.take_succ_eq_append_getElem h, List.getD_eq_getElem?_getD, List.getElem?_eq_getElem h]; rfl
theorem getD_take {T : List Int} {j k : Nat} (h : j < k) : (T.take k).getD j 0 = T.getD j 0 := by
  rw [List.getD_eq_getElem?_getD, List.getD_eq_getElem?_getD, List.getElem?_take, if_pos h]
end Go.Proofs.Ytamneibnjbimeaa
