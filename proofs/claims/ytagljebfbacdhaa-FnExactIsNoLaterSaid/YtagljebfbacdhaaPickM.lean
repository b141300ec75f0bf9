/- The stoppings chosen of two, in the model; EarlierStop and LaterStop. -/
import Derived.Test.YtagljebfbacdhaaPickI
import Derived.Test.YtagljebfbacdhaaPutS
import Derived.Test.YtagljebfbacdhaaStopM
import Derived.Test.YtagljebfbacdhaaHeldMore
import Derived.Deep.LoopGhost
import Derived.Deep.RegionHeld3
namespace Go.Proofs.Ytagljebfbacdhaa
open Go.RowKit
set_option linter.unusedVariables false
theorem moreP (a b : Int) (w : World) : Calls Try.prog 80 #[.int .i64 a, .int .i64 b] w fun e w' => e = .returned (.int .i64 (oneOf true a b)) ∧ w = w' := by
  have D : Hid (oneOf true a b = if b < a then a else b) := Lib.hid rfl
  by_cases h : b < a
  · have R : Hid (oneOf true a b = a) := Lib.hid (by rw [D.out, if_pos h])
    rw [R.out]
    clear R D
    go_enter Try.func80, Try.ntmps80
    go_wp2
    go_ret
    exact ⟨rfl, rfl⟩
  · have R : Hid (oneOf true a b = b) := Lib.hid (by rw [D.out, if_neg h])
    rw [R.out]
    clear R D
    go_enter Try.func80, Try.ntmps80
    go_wp2
    go_ret
    exact ⟨rfl, rfl⟩
theorem lessP (a b : Int) (w : World) : Calls Try.prog 77 #[.int .i64 a, .int .i64 b] w fun e w' => e = .returned (.int .i64 (oneOf false a b)) ∧ w = w' := by
  have D : Hid (oneOf false a b = if a < b then a else b) := Lib.hid rfl
  by_cases h : a < b
  · have R : Hid (oneOf false a b = a) := Lib.hid (by rw [D.out, if_pos h])
    rw [R.out]
    clear R D
    go_enter Try.func77, Try.ntmps77
    go_wp2
    go_ret
    exact ⟨rfl, rfl⟩
  · have R : Hid (oneOf false a b = b) := Lib.hid (by rw [D.out, if_neg h])
    rw [R.out]
    clear R D
    go_enter Try.func77, Try.ntmps77
    go_wp2
    go_ret
    exact ⟨rfl, rfl⟩
end Go.Proofs.Ytagljebfbacdhaa
