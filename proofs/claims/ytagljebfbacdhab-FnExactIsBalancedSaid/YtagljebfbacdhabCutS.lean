/- The cut at a time, in the model. -/
import Derived.Test.YtagljebfbacdhabSumS
namespace Go.Proofs.Ytagljebfbacdhab
open Go.RowKit
set_option linter.unusedVariables false
/-- Whether node x is in the cut at the time d. -/
def cutB (ps ws : List Int) (d : Int) (x : Nat) : Bool := (depthsT ps).getD x 0 == d || (decide ((depthsT ps).getD x 0 < d) && decide (0 < ws.getD x 0))
def cutT (ps ws : List Int) (d : Int) : List Int := nodesW (cutB ps ws d) ps.length
theorem ne_grown {w w3 : World} {r : Option Nat} {g : Nat} (hg : w.grownBy w3 r) (hs : g < w.heap.size) (hne : ∀ q, r = some q → q ≠ g) (o : Nat) : w3.cell? ⟨g, o, none⟩ = w.cell? ⟨g, o, none⟩ :=
  World.cell?_of_block (hg.block g hs (fun e => hne g e.symm rfl))
end Go.Proofs.Ytagljebfbacdhab
