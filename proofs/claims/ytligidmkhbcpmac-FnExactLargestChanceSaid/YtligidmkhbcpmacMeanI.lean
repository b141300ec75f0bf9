/- MeansOf in the program. -/
import Derived.Test.YtligidmkhbcpmacMeanP
import Derived.Test.YtligidmkhbcpmacFracB
import Derived.Test.YtligidmkhbcpmacSumsI
import Derived.Deep.RegionHeld3
import Derived.BigQuiet
import Derived.Deep.LoopGhost
namespace Go.Proofs.Ytligidmkhbcpmac
open Go.RowKit
set_option linter.unusedVariables false
theorem hb_nextM {wa a b : World} (h : Hid (Below wa.heap.size wa a)) (k : Below a.heap.size a b) : Hid (Below wa.heap.size wa b) := Lib.hid (h.out.trans (k.mono h.out.size))
theorem far2q {X : World} {g h o a b : Nat} {u v : Value} (e : h ≠ g) : ((X.setCell ⟨g, a, none⟩ u).setCell ⟨g, b, none⟩ v).cell? ⟨h, o, none⟩ = X.cell? ⟨h, o, none⟩ := by
  rw [World.cell?_setCell_other _ _ _ _ (by intro c; injection c; omega), World.cell?_setCell_other _ _ _ _ (by intro c; injection c; omega)]
end Go.Proofs.Ytligidmkhbcpmac
