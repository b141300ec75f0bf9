/- IsTree in the model. -/
import Derived.Test.YtfnnlkbecnjloaaGoodS
namespace Go.Proofs.Ytfnnlkbecnjloaa
open Go.RowKit
set_option linter.unusedVariables false
set_option maxHeartbeats 1000000 in
theorem isTreeM (ps ws : List Int) (v : Value) (w : World) (h : TreeV w w.heap.size v ps ws) :
    Calls Try.prog 33 #[v] w fun e w' => e = .returned (.bool (goodT ps ws)) ∧ Below w.heap.size w w' := by
  have G := Lib.hid (fun w' (hb : Below w.heap.size w w') => goodS ps ws v w' (h.boxed hb))
  obtain ⟨p1, c1, p2, c2, rfl⟩ : ∃ p1 c1 p2 c2, v = .agg #[.slice p1 ps.length c1, .slice p2 ws.length c2] := by
    obtain ⟨v1, v2, e, ⟨p1, c1, e1, _⟩, ⟨p2, c2, e2, _⟩⟩ := h
    exact ⟨p1, c1, p2, c2, by rw [e, e1, e2]⟩
  clear h
  generalize goodT ps ws = b at *
  have B1 := (Below.refl w.heap.size w).alloc (Nat.le_refl _) (.cells #[.slice p1 ps.length c1, .slice p2 ws.length c2] 44)
  go_enter Try.func33, Try.ntmps33
  go_wp2_with fail
  refine (G.out _ B1).mono ?_
  rintro e w1 ⟨rfl, b1⟩
  go_wp2_with fail
  go_ret
  exact ⟨rfl, B1.trans (b1.mono B1.size)⟩
end Go.Proofs.Ytfnnlkbecnjloaa
