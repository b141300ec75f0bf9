/- The mean rank in numbers, as the model reckons it. -/
import Derived.Test.YtnpiciabpgkiiabQstP
namespace Go.Proofs.Ytnpiciabpgkiiab
set_option linter.unusedVariables false
def rkN (n k : Nat) : Int × Int := (-(qT2.m n k).1, (qT2.m n k).2)
def rkS (n k j : Nat) : Int × Int := (-(qT2.s n (k - 1) j).1, (qT2.s n (k - 1) j).2)
def rkT (n k j : Nat) : Int × Int := (cutN (((n : Int) + 1) * (j + 1)) (k + 1), cutD (((n : Int) + 1) * (j + 1)) (k + 1))
def rkC (n k j : Nat) : Int × Int := if (rkN n k).1 * (rkT n k j).2 < (rkT n k j).1 * (rkN n k).2 then rkN n k else rkT n k j
theorem rk1 : ∀ n : Nat, n < 11 → 1 ≤ n → (cutN ((n : Int) + 1) 2, cutD ((n : Int) + 1) 2) = rkN n (n - 1) := by decide +kernel
theorem rk2 : ∀ n : Nat, n < 11 → ∀ k : Nat, k < n → 1 ≤ k → rkS n k 0 = (0, 1) := by decide +kernel
theorem rk3 : ∀ n : Nat, n < 11 → ∀ k : Nat, k < n → 1 ≤ k → ∀ j : Nat, j < k → (cutN ((rkS n k j).1 * (rkC n k j).2 + (rkC n k j).1 * (rkS n k j).2) ((rkS n k j).2 * (rkC n k j).2), cutD ((rkS n k j).1 * (rkC n k j).2 + (rkC n k j).1 * (rkS n k j).2) ((rkS n k j).2 * (rkC n k j).2)) = rkS n k (j + 1) := by decide +kernel
theorem rk4 : ∀ n : Nat, n < 11 → ∀ k : Nat, k < n → 1 ≤ k → (cutN ((rkS n k k).1 * 1) ((rkS n k k).2 * k), cutD ((rkS n k k).1 * 1) ((rkS n k k).2 * k)) = rkN n (k - 1) := by decide +kernel
theorem rk5 : ∀ n : Nat, n < 11 → ∀ k : Nat, k < n → isFr (rkN n k).1 (rkN n k).2 = true := by decide +kernel
theorem rk6 : ∀ n : Nat, n < 11 → ∀ k : Nat, k < n → 1 ≤ k → ∀ j : Nat, j < k + 1 → isFr (rkS n k j).1 (rkS n k j).2 = true := by decide +kernel
theorem rk7 : ∀ n : Nat, n < 11 → ∀ k : Nat, k < n → 1 ≤ k → ∀ j : Nat, j < k → isFr (rkT n k j).1 (rkT n k j).2 = true := by decide +kernel
theorem rk8 : ∀ n : Nat, n < 11 → 1 ≤ n → (-(qT2.v 2 n 0 0).1, (qT2.v 2 n 0 0).2) = rkN n 0 := by decide +kernel
end Go.Proofs.Ytnpiciabpgkiiab
