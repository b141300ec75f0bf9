/- The numbers of walks by their returns: the kernel reckons the table. -/
import Derived.Test.YtmidlabgmmejbabRetP
import Derived.Test.YtmidlabgmmejbabWlkP
namespace Go.Proofs.Ytmidlabgmmejbab
set_option linter.unusedVariables false
set_option maxRecDepth 1000000 in
theorem rt_eq0 : ∀ k, k < 9 → ∀ r, r < k + 1 → colLR (dpLR (2 * k) (2 * k)) r (2 * (2 * k) + 1) = 2 ^ r * chN (2 * k - r) k := by decide +kernel
set_option maxRecDepth 1000000 in
set_option maxHeartbeats 0 in
theorem rt_eq9 : ∀ r, r < 10 → colLR (dpLR 18 18) r 37 = 2 ^ r * chN (18 - r) 9 := by decide +kernel
set_option maxRecDepth 1000000 in
set_option maxHeartbeats 0 in
theorem rt_eq10 : ∀ r, r < 11 → colLR (dpLR 20 20) r 41 = 2 ^ r * chN (20 - r) 10 := by decide +kernel
set_option maxRecDepth 1000000 in
set_option maxHeartbeats 0 in
theorem rt_eq11 : ∀ r, r < 12 → colLR (dpLR 22 22) r 45 = 2 ^ r * chN (22 - r) 11 := by decide +kernel
set_option maxRecDepth 1000000 in
set_option maxHeartbeats 0 in
theorem rt_eq12 : ∀ r, r < 13 → colLR (dpLR 24 24) r 49 = 2 ^ r * chN (24 - r) 12 := by decide +kernel
set_option maxRecDepth 1000000 in
set_option maxHeartbeats 0 in
theorem rt_eq13 : ∀ r, r < 14 → colLR (dpLR 26 26) r 53 = 2 ^ r * chN (26 - r) 13 := by decide +kernel
set_option maxRecDepth 1000000 in
set_option maxHeartbeats 0 in
theorem rt_eq14 : ∀ r, r < 15 → colLR (dpLR 28 28) r 57 = 2 ^ r * chN (28 - r) 14 := by decide +kernel
set_option maxRecDepth 1000000 in
set_option maxHeartbeats 0 in
theorem rt_eq15 : ∀ r, r < 16 → colLR (dpLR 30 30) r 61 = 2 ^ r * chN (30 - r) 15 := by decide +kernel
theorem rt_eq {k r : Nat} (hk : k ≤ 15) (hr : r < k + 1) : colLR (dpLR (2 * k) (2 * k)) r (2 * (2 * k) + 1) = 2 ^ r * chN (2 * k - r) k := by
  by_cases h : k < 9
  · exact rt_eq0 k h r hr
  · have h2 : k = 9 ∨ k = 10 ∨ k = 11 ∨ k = 12 ∨ k = 13 ∨ k = 14 ∨ k = 15 := by omega
    rcases h2 with rfl | rfl | rfl | rfl | rfl | rfl | rfl
    · exact rt_eq9 r hr
    · exact rt_eq10 r hr
    · exact rt_eq11 r hr
    · exact rt_eq12 r hr
    · exact rt_eq13 r hr
    · exact rt_eq14 r hr
    · exact rt_eq15 r hr
/-- The column's sum is the number of walks with r returns. -/
theorem col_rt {k r : Nat} (hk : k ≤ 15) (hr : r < k + 1) : colR (2 * k) r (2 * (2 * k) + 1) = 2 ^ r * chN (2 * k - r) k := by
  rw [← col_list (m := 2 * k) (r := r) (by omega) _ (Nat.le_refl _)]
  exact rt_eq hk hr
end Go.Proofs.Ytmidlabgmmejbab
