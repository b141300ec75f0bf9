/- Choices and walks, told by numbers. No program is spoken of here. -/
import Derived.WalkKit
namespace Go.Proofs.Ytligidmkhbcpmac
set_option linter.unusedVariables false
/-- In how many ways k things of n can be chosen, factor by factor from above. -/
def chN (n : Nat) : Nat → Nat
  | 0 => 1
  | k + 1 => chN n k * (n - k) / (k + 1)
/-- The same, factor by factor from below. -/
def chS (n k : Nat) : Nat → Nat
  | 0 => 1
  | i + 1 => chS n k i * (n - k + (i + 1)) / (i + 1)
set_option maxRecDepth 100000 in
theorem chN_bd : ∀ n, n < 31 → ∀ k, k < 31 → chN n k ≤ 155117520 := by decide +kernel
set_option maxRecDepth 100000 in
theorem chS_bd : ∀ n, n < 31 → ∀ k, k < 31 → ∀ i, i < 31 → i ≤ k → k ≤ n → chS n k i ≤ 155117520 := by decide +kernel
set_option maxRecDepth 100000 in
theorem chS_eq : ∀ n, n < 31 → ∀ k, k < 31 → k ≤ n → chS n k k = chN n k := by decide +kernel
/-- The number of walks of m steps to x. -/
def wkI (m : Nat) (x : Int) : Int := if -(m : Int) ≤ x ∧ x ≤ m ∧ ((m : Int) + x) % 2 = 0 then (chN m (((m : Int) + x) / 2).toNat : Int) else 0
theorem wkI_bd {m : Nat} (hm : m ≤ 30) (x : Int) : 0 ≤ wkI m x ∧ wkI m x ≤ 155117520 := by
  unfold wkI
  split
  · have := chN_bd m (by omega) (((m : Int) + x) / 2).toNat (by omega)
    omega
  · omega
/-- The number of those that are never less than a floor. -/
def paI (m : Nat) (x f : Int) : Int := if f ≤ x ∧ x ≤ m then wkI m x - wkI m (2 * (f - 1) - x) else 0
theorem paI_bd {m : Nat} (hm : m ≤ 30) (x f : Int) : -155117520 ≤ paI m x f ∧ paI m x f ≤ 155117520 := by
  unfold paI
  have h1 := wkI_bd hm x
  have h2 := wkI_bd hm (2 * (f - 1) - x)
  split <;> omega
/-- The number of those that come to x for the first time. -/
def fpI (m : Nat) (x : Int) : Int := if -(m : Int) ≤ x ∧ x ≤ m then (wkI m x * max x (-x)) / (m : Int) else 0
set_option maxRecDepth 100000 in
theorem bal_eq : ∀ p, p < 31 → ∀ q, q < 31 → p + q < 31 → 0 < p + q → paI (p + q - 1) ((p : Int) - 1 - q) 0 = max 0 ((p : Int) - q) * (chN (p + q) p : Int) / ((p : Int) + q) := by decide +kernel
set_option maxRecDepth 100000 in
theorem tie_eq : ∀ p, p < 31 → ∀ q, q < 31 → p + q < 31 → paI (p + q) ((p : Int) - q) 0 = max 0 ((p : Int) + 1 - q) * (chN (p + q) p : Int) / ((p : Int) + 1) := by decide +kernel
def balI (p q : Nat) : Int := if p + q = 0 then 1 else paI (p + q - 1) ((p : Int) - 1 - q) 0
def tieI (p q : Nat) : Int := paI (p + q) ((p : Int) - q) 0
end Go.Proofs.Ytligidmkhbcpmac
