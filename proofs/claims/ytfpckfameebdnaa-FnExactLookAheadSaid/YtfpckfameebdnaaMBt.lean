/- A boxed tree while new memory is made. -/
import Derived.Test.YtfpckfameebdnaaLawT
import Derived.Test.YtfpckfameebdnaaIsTree
namespace Go.Proofs.Ytfpckfameebdnaa
open Go.RowKit
set_option linter.unusedVariables false
/-- What stands between the calls in the model where the result has no box. -/
def MBt (w : World) (B : Nat) (v1 v2 : Value) (w' : World) : Prop := TBox w' B v1 v2 ∧ Below w.heap.size w w'
theorem MBt.next {w a b : World} {B : Nat} {v1 v2 : Value} (h : MBt w B v1 v2 a) (hb : Below a.heap.size a b) : MBt w B v1 v2 b := ⟨h.1.below hb h.1.lt, h.2.trans (hb.mono h.2.size)⟩
theorem MBt.drew {w a : World} {B : Nat} {v1 v2 : Value} (h : MBt w B v1 v2 a) : MBt w B v1 v2 a.drew := h.next (below_drew (Below.refl _ _))
end Go.Proofs.Ytfpckfameebdnaa
