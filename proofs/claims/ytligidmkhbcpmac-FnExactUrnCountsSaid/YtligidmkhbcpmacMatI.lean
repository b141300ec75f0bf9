/- Orders by their matches, in the program and in the model. -/
import Derived.Test.YtligidmkhbcpmacDrgI
import Derived.Test.YtligidmkhbcpmacFill
import Derived.Test.YtligidmkhbcpmacInS
namespace Go.Proofs.Ytligidmkhbcpmac
open Go.RowKit
set_option linter.unusedVariables false
theorem okC_mk {m : Int} (h : okC 0 m = true) : ∃ k : Nat, m = k ∧ k ≤ 12 := by
  unfold okC at h
  rw [decide_eq_true_iff] at h
  exact ⟨m.toNat, by omega, by omega⟩
def ifC (m : Int) (L : Nat → List Int) : List Int := if okC 0 m = true then L m.toNat else []
theorem ifC_len (m : Int) (L : Nat → List Int) (h : ∀ k, (L k).length ≤ k + 1) : (ifC m L).length ≤ 13 := by
  unfold ifC
  split
  · rename_i hk
    obtain ⟨k, rfl, h1⟩ := okC_mk hk
    have := h ((k : Int).toNat)
    omega
  · simp
def mtL (k : Nat) : List Int := fillL (mtN k) (k + 1) (k + 1)
end Go.Proofs.Ytligidmkhbcpmac
