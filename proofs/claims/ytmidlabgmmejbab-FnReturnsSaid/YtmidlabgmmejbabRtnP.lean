/- Walks by their returns and leads are all walks, told by numbers. No program is spoken of here. -/
import Derived.Test.YtmidlabgmmejbabCouI
namespace Go.Proofs.Ytmidlabgmmejbab
set_option linter.unusedVariables false
/-- The walks of m steps to the first j places from below. -/
def psI (m : Nat) : Nat → Int
  | 0 => 0
  | j + 1 => psI m j + wkI m ((j : Int) - m)
/-- The first j numbers of a list together. -/
def suI (L : List Int) : Nat → Int
  | 0 => 0
  | j + 1 => suI L j + L.getD j 0
set_option maxRecDepth 100000 in
theorem ps_all : ∀ k, k < 16 → psI (2 * k) (4 * k + 1) = 4 ^ k := by decide +kernel
set_option maxRecDepth 100000 in
theorem ps_bd : ∀ k, k < 16 → ∀ j, j < 62 → 0 ≤ psI (2 * k) j ∧ psI (2 * k) j ≤ 4 ^ k := by decide +kernel
set_option maxRecDepth 100000 in
theorem rt_all : ∀ k, k < 16 → suI (rtL k) (k + 1) = 4 ^ k := by decide +kernel
set_option maxRecDepth 100000 in
theorem rt_bd : ∀ k, k < 16 → ∀ j, j < 17 → 0 ≤ suI (rtL k) j ∧ suI (rtL k) j ≤ 4 ^ k := by decide +kernel
set_option maxRecDepth 100000 in
theorem ld_all : ∀ k, k < 16 → suI (ldL k) (k + 1) = 4 ^ k := by decide +kernel
set_option maxRecDepth 100000 in
theorem ld_bd : ∀ k, k < 16 → ∀ j, j < 17 → 0 ≤ suI (ldL k) j ∧ suI (ldL k) j ≤ 4 ^ k := by decide +kernel
set_option maxRecDepth 100000 in
theorem ld_at : ∀ k, k < 16 → ∀ r, r < 16 → r ≤ k → (ldL k).getD r 0 = wkI (2 * r) 0 * wkI (2 * k - 2 * r) 0 ∧ (ldL k).getD r 0 = (ldL k).getD (k - r) 0 := by decide +kernel
set_option maxRecDepth 100000 in
theorem rt_home : ∀ k, k < 16 → (rtL k).getD 0 0 = wkI (2 * k) 0 := by decide +kernel
theorem rtL_len (k : Nat) : (rtL k).length = k + 1 := by unfold rtL; exact fill_len _ _ _
theorem ldL_len (k : Nat) : (ldL k).length = k + 1 := by unfold ldL; exact fill_len _ _ _
theorem pow4_bd : ∀ k, k < 16 → (4 : Int) ^ k ≤ 1073741824 := by decide +kernel
end Go.Proofs.Ytmidlabgmmejbab
