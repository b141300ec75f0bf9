/- Numbers of walks, in the program and in the model. -/
import Derived.Test.YtligidmkhbcpmacWlkI
namespace Go.Proofs.Ytligidmkhbcpmac
open Go.RowKit
set_option linter.unusedVariables false
/-- A result; nothing has turned. -/
def QR (v : Value) (w : World) (e : Ending) (w' : World) : Prop := e = .returned v ∧ w = w'
theorem QR.gives {v : Value} {w w' : World} {e : Ending} (h : QR v w e w') : Gives v w e w' := by
  obtain ⟨h1, rfl⟩ := h
  exact ⟨h1, Below.refl _ _⟩
end Go.Proofs.Ytligidmkhbcpmac
