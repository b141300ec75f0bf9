/- The chances of rules for people, reckoned. No program is spoken of here. -/
import Derived.Test.YtnpiciabpgkiiadFracP
namespace Go.Proofs.Ytnpiciabpgkiiad
set_option linter.unusedVariables false
/-- The sum of 1 divided by k over j numbers from r on, in lowest terms. -/
def hmP (r : Nat) : Nat → Int × Int
  | 0 => (0, 1)
  | j + 1 => (cutN ((hmP r j).1 * ((r + j : Nat) : Int) + 1 * (hmP r j).2) ((hmP r j).2 * ((r + j : Nat) : Int)), cutD ((hmP r j).1 * ((r + j : Nat) : Int) + 1 * (hmP r j).2) ((hmP r j).2 * ((r + j : Nat) : Int)))
def scN (n r : Nat) : Int := if r = 0 then 1 else cutN ((r : Int) * (hmP r (n - r)).1) ((n : Int) * (hmP r (n - r)).2)
def scD (n r : Nat) : Int := if r = 0 then n else cutD ((r : Int) * (hmP r (n - r)).1) ((n : Int) * (hmP r (n - r)).2)
set_option maxRecDepth 100000 in
theorem hm_ok1 : ∀ r : Nat, r < 11 → ∀ j : Nat, j < 11 → 1 ≤ r → r + j ≤ 10 → isFr (hmP r j).1 (hmP r j).2 = true := by decide +kernel
set_option maxRecDepth 100000 in
theorem hm_ok2 : ∀ r : Nat, r < 11 → ∀ j : Nat, j < 11 → 1 ≤ r → r + j ≤ 10 → 0 ≤ (hmP r j).1 ∧ (hmP r j).1 ≤ 10000 := by decide +kernel
set_option maxRecDepth 100000 in
theorem hm_ok3 : ∀ r : Nat, r < 11 → ∀ j : Nat, j < 11 → 1 ≤ r → r + j ≤ 10 → 1 ≤ (hmP r j).2 ∧ (hmP r j).2 ≤ 2520 := by decide +kernel
set_option maxRecDepth 100000 in
theorem sc_ok : ∀ n : Nat, n < 11 → ∀ r : Nat, r < 11 → r < n → isFr (scN n r) (scD n r) = true ∧ (0 ≤ scN n r ∧ scN n r ≤ 25200) ∧ (1 ≤ scD n r ∧ scD n r ≤ 25200) := by decide +kernel
set_option maxRecDepth 100000 in
theorem sc_times : ∀ n : Nat, n < 11 → ∀ r : Nat, r < 11 → 1 ≤ r → r < n → cutN ((hmP r (n - r)).1 * cutN r n) ((hmP r (n - r)).2 * cutD r n) = scN n r ∧ cutD ((hmP r (n - r)).1 * cutN r n) ((hmP r (n - r)).2 * cutD r n) = scD n r := by decide +kernel
set_option maxRecDepth 100000 in
theorem sc_rn1 : ∀ n : Nat, n < 11 → ∀ r : Nat, r < 11 → 1 ≤ r → r < n → gI (cutN r n) (cutD r n) = 1 := by decide +kernel
set_option maxRecDepth 100000 in
theorem sc_rn2 : ∀ n : Nat, n < 11 → ∀ r : Nat, r < 11 → 1 ≤ r → r < n → 0 ≤ cutN r n ∧ cutN r n ≤ 10 := by decide +kernel
set_option maxRecDepth 100000 in
theorem sc_rn3 : ∀ n : Nat, n < 11 → ∀ r : Nat, r < 11 → 1 ≤ r → r < n → 1 ≤ cutD r n ∧ cutD r n ≤ 10 := by decide +kernel
set_option maxRecDepth 100000 in
theorem sc_one : ∀ n : Nat, n < 11 → 1 ≤ n → cutN (1 : Int) (n : Int) = 1 ∧ cutD (1 : Int) (n : Int) = n := by decide +kernel
/-- The best of the rules less than k. -/
def sbT (n : Nat) : Nat → Nat
  | 0 => 0
  | k + 1 => if scN n (sbT n k) * scD n k < scN n k * scD n (sbT n k) then k else sbT n k
set_option maxRecDepth 100000 in
theorem sb_lt : ∀ n : Nat, n < 11 → ∀ k : Nat, k < 11 → 1 ≤ n → k ≤ n → sbT n k < n := by decide +kernel
theorem sb_one (n : Nat) : sbT n 1 = 0 := by
  simp only [sbT]; exact ite_self _
def secOk (n r : Int) : Bool := decide (1 ≤ n ∧ n ≤ 10) && decide (0 ≤ r ∧ r ≤ n - 1)
end Go.Proofs.Ytnpiciabpgkiiad
