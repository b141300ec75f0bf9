/- The secretary's table in numbers, as the model reckons it. -/
import Derived.Test.YtnpiciabpgkiiabQstP
namespace Go.Proofs.Ytnpiciabpgkiiab
set_option linter.unusedVariables false
def sV (n k : Nat) : Int × Int := qT1.v 1 n k 0
def sT (n k : Nat) : Int × Int := grt (cutN k n, cutD k n) (sV n k)
def sU (n k : Nat) : Int × Int := (cutN ((sT n k).1 * 1) ((sT n k).2 * k), cutD ((sT n k).1 * 1) ((sT n k).2 * k))
def sC (k : Nat) : Int × Int := (cutN ((k : Int) - 1) k, cutD ((k : Int) - 1) k)
def sW (n k : Nat) : Int × Int := (cutN ((sV n k).1 * (sC k).1) ((sV n k).2 * (sC k).2), cutD ((sV n k).1 * (sC k).1) ((sV n k).2 * (sC k).2))
theorem st0 : ∀ n : Nat, n < 11 → 1 ≤ n → sV n n = (0, 1) := by decide +kernel
theorem st1 : ∀ n : Nat, n < 11 → ∀ k : Nat, k < n + 1 → 1 ≤ k → (cutN ((sU n k).1 * (sW n k).2 + (sW n k).1 * (sU n k).2) ((sU n k).2 * (sW n k).2), cutD ((sU n k).1 * (sW n k).2 + (sW n k).1 * (sU n k).2) ((sU n k).2 * (sW n k).2)) = sV n (k - 1) := by decide +kernel
theorem st2 : ∀ n : Nat, n < 11 → 1 ≤ n → ∀ k : Nat, k < n + 1 → isFr (sV n k).1 (sV n k).2 = true := by decide +kernel
theorem st3 : ∀ n : Nat, n < 11 → ∀ k : Nat, k < n + 1 → 1 ≤ k → isFr (cutN (k : Int) n) (cutD (k : Int) n) = true := by decide +kernel
theorem st4 : ∀ n : Nat, n < 11 → ∀ k : Nat, k < n + 1 → 1 ≤ k → isFr (sU n k).1 (sU n k).2 = true := by decide +kernel
theorem st5 : ∀ k : Nat, k < 11 → 1 ≤ k → isFr (sC k).1 (sC k).2 = true := by decide +kernel
theorem st6 : ∀ n : Nat, n < 11 → ∀ k : Nat, k < n + 1 → 1 ≤ k → isFr (sW n k).1 (sW n k).2 = true := by decide +kernel
end Go.Proofs.Ytnpiciabpgkiiab
