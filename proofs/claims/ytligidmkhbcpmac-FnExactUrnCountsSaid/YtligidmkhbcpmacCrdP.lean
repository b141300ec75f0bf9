/- Cards, coupons and records, reckoned. No program is spoken of here. -/
import Derived.Test.YtligidmkhbcpmacWlkP
import Derived.Test.YtligidmkhbcpmacFracP
namespace Go.Proofs.Ytligidmkhbcpmac
set_option linter.unusedVariables false
/-- 1 for even numbers, -1 for odd ones. -/
def sgN (k : Nat) : Int := if k % 2 = 0 then 1 else -1
theorem sg_zero : sgN 0 = 1 := rfl
theorem sg_succ (k : Nat) : sgN (k + 1) = sgN k * -1 := by
  unfold sgN
  by_cases h : k % 2 = 0
  · rw [if_pos h, if_neg (by omega)]; rfl
  · rw [if_neg h, if_pos (by omega)]; rfl
theorem sg_bd (k : Nat) : -1 ≤ sgN k ∧ sgN k ≤ 1 := by
  unfold sgN
  split <;> omega
/-- The orders of k cards in which none is at its own place. -/
def dgN : Nat → Int
  | 0 => 1
  | k + 1 => dgN k * ((k : Int) + 1) + sgN (k + 1)
theorem dg_bd : ∀ k, k < 13 → 0 ≤ dgN k ∧ dgN k ≤ 176214841 := by decide +kernel
theorem dg_bd2 : ∀ k, k < 12 → 0 ≤ dgN k * ((k : Int) + 1) ∧ dgN k * ((k : Int) + 1) ≤ 176214841 := by decide +kernel
/-- The orders of n cards in which r are at their own places. -/
def mtN (n r : Nat) : Int := (chN n r : Nat) * dgN (n - r)
set_option maxRecDepth 100000 in
theorem mt_bd : ∀ n, n < 13 → ∀ r, r < 13 → r ≤ n → 0 ≤ mtN n r ∧ mtN n r ≤ 479001600 := by decide +kernel
/-- The orders of c cards with i records. -/
def reF : Nat → Nat → Int
  | 0, 0 => 1
  | 0, _ + 1 => 0
  | c + 1, 0 => reF c 0 * (c : Int)
  | c + 1, i + 1 => reF c (i + 1) * (c : Int) + reF c i
set_option maxRecDepth 100000 in
theorem re_bd : ∀ c, c < 13 → ∀ i, i < 14 → 0 ≤ reF c i ∧ reF c i ≤ 479001600 := by decide +kernel
set_option maxRecDepth 100000 in
theorem re_bd2 : ∀ c, c < 13 → ∀ i, i < 14 → 0 ≤ reF c i * (c : Int) ∧ reF c i * (c : Int) ≤ 6227020800 := by decide +kernel
theorem re_big : ∀ c, c < 14 → ∀ i, i < 15 → c < i → reF c i = 0 := by decide +kernel
/-- The lists that show each face: j of the sums by the sets of missing ones. -/
def cpT (n m i : Nat) : Int := sgN i * (chN n i : Nat) * ((n - i) ^ m : Nat)
def cpN (n m : Nat) : Nat → Int
  | 0 => 0
  | j + 1 => cpN n m j + cpT n m j
set_option maxRecDepth 100000 in
theorem cp_bd : ∀ n, n < 9 → ∀ m, m < 9 → ∀ j, j < 10 → -10000000000 ≤ cpN n m j ∧ cpN n m j ≤ 10000000000 := by decide +kernel
set_option maxRecDepth 100000 in
theorem cpT_bd : ∀ n, n < 9 → ∀ m, m < 9 → ∀ j, j < 9 → -10000000000 ≤ cpT n m j ∧ cpT n m j ≤ 10000000000 := by decide +kernel
set_option maxRecDepth 100000 in
theorem ch_flip : ∀ n, n < 9 → ∀ j, j < 9 → j ≤ n → chN n (n - j) = chN n j := by decide +kernel
set_option maxRecDepth 100000 in
theorem ch_bd8 : ∀ n, n < 9 → ∀ j, j < 9 → chN n j ≤ 70 := by decide +kernel
set_option maxRecDepth 100000 in
theorem pw_bd8 : ∀ n, n < 9 → ∀ j, j < 9 → n ^ j ≤ 16777216 := by decide +kernel
/-- The sum of 1 divided by the first k numbers, in lowest terms. -/
def haP : Nat → Int × Int
  | 0 => (0, 1)
  | k + 1 => (cutN ((haP k).1 * ((k : Int) + 1) + 1 * (haP k).2) ((haP k).2 * ((k : Int) + 1)), cutD ((haP k).1 * ((k : Int) + 1) + 1 * (haP k).2) ((haP k).2 * ((k : Int) + 1)))
set_option maxRecDepth 100000 in
theorem ha_fr : ∀ k, k < 13 → isFr (haP k).1 (haP k).2 = true := by decide +kernel
set_option maxRecDepth 100000 in
theorem ha_one : ∀ k : Nat, k < 13 → isFr 1 ((k : Int) + 1) = true := by decide +kernel
theorem ha_n : ∀ k : Nat, k < 13 → isFr (k : Int) 1 = true := by decide +kernel
set_option maxRecDepth 100000 in
theorem ha_bd : ∀ k, k < 13 → (0 ≤ (haP k).1 ∧ (haP k).1 ≤ 100000) ∧ (1 ≤ (haP k).2 ∧ (haP k).2 ≤ 100000) := by decide +kernel
/-- How many throws show each of n faces in the mean. -/
def cmP (n : Nat) : Int × Int := (cutN ((n : Int) * (haP n).1) (1 * (haP n).2), cutD ((n : Int) * (haP n).1) (1 * (haP n).2))
set_option maxRecDepth 100000 in
theorem cm_fr : ∀ k, k < 13 → isFr (cmP k).1 (cmP k).2 = true := by decide +kernel
set_option maxRecDepth 100000 in
theorem cm_flip : ∀ k : Nat, k < 13 → cutN ((haP k).1 * (k : Int)) ((haP k).2 * 1) = (cmP k).1 ∧ cutD ((haP k).1 * (k : Int)) ((haP k).2 * 1) = (cmP k).2 := by decide +kernel
theorem fr_in {n d : Int} (h : isFr n d = true) : inB n d = true := by
  unfold isFr at h
  exact (Bool.and_eq_true _ _ ▸ h : inB n d = true ∧ _).1
end Go.Proofs.Ytligidmkhbcpmac
