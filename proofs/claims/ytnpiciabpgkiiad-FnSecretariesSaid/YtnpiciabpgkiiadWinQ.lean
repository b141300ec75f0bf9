/- Orders of seven people, counted. No program is spoken of here. -/
import Derived.Test.YtnpiciabpgkiiadWinP
namespace Go.Proofs.Ytnpiciabpgkiiad
set_option linter.unusedVariables false
set_option maxRecDepth 100000 in
set_option maxHeartbeats 4000000 in
theorem w7_0 : winsF 7 0 7 [] = 720 := by decide +kernel
theorem v7_0 : Int.tdiv ((facN 7 : Int) * scN 7 0) (scD 7 0) = (720 : Nat) := by decide +kernel
set_option maxRecDepth 100000 in
set_option maxHeartbeats 4000000 in
theorem w7_1 : winsF 7 1 7 [] = 1764 := by decide +kernel
theorem v7_1 : Int.tdiv ((facN 7 : Int) * scN 7 1) (scD 7 1) = (1764 : Nat) := by decide +kernel
set_option maxRecDepth 100000 in
set_option maxHeartbeats 4000000 in
theorem w7_2 : winsF 7 2 7 [] = 2088 := by decide +kernel
theorem v7_2 : Int.tdiv ((facN 7 : Int) * scN 7 2) (scD 7 2) = (2088 : Nat) := by decide +kernel
set_option maxRecDepth 100000 in
set_option maxHeartbeats 4000000 in
theorem w7_3 : winsF 7 3 7 [] = 2052 := by decide +kernel
theorem v7_3 : Int.tdiv ((facN 7 : Int) * scN 7 3) (scD 7 3) = (2052 : Nat) := by decide +kernel
set_option maxRecDepth 100000 in
set_option maxHeartbeats 4000000 in
theorem w7_4 : winsF 7 4 7 [] = 1776 := by decide +kernel
theorem v7_4 : Int.tdiv ((facN 7 : Int) * scN 7 4) (scD 7 4) = (1776 : Nat) := by decide +kernel
set_option maxRecDepth 100000 in
set_option maxHeartbeats 4000000 in
theorem w7_5 : winsF 7 5 7 [] = 1320 := by decide +kernel
theorem v7_5 : Int.tdiv ((facN 7 : Int) * scN 7 5) (scD 7 5) = (1320 : Nat) := by decide +kernel
set_option maxRecDepth 100000 in
set_option maxHeartbeats 4000000 in
theorem w7_6 : winsF 7 6 7 [] = 720 := by decide +kernel
theorem v7_6 : Int.tdiv ((facN 7 : Int) * scN 7 6) (scD 7 6) = (720 : Nat) := by decide +kernel
theorem wins_eq7 {r : Nat} (hr : r < 7) : Int.tdiv ((facN 7 : Int) * scN 7 r) (scD 7 r) = (winsF 7 r 7 [] : Nat) := by
  have h : r = 0 ∨ r = 1 ∨ r = 2 ∨ r = 3 ∨ r = 4 ∨ r = 5 ∨ r = 6 := by omega
  rcases h with rfl | rfl | rfl | rfl | rfl | rfl | rfl
  · rw [w7_0]; exact v7_0
  · rw [w7_1]; exact v7_1
  · rw [w7_2]; exact v7_2
  · rw [w7_3]; exact v7_3
  · rw [w7_4]; exact v7_4
  · rw [w7_5]; exact v7_5
  · rw [w7_6]; exact v7_6
theorem wins_eq {n r : Nat} (hn : n ≤ 7) (hr : r < n) : Int.tdiv ((facN n : Int) * scN n r) (scD n r) = (winsF n r n [] : Nat) := by
  rcases Nat.lt_or_ge n 7 with h | h
  · exact wins_eq6 n h r (by omega) hr
  · obtain rfl : n = 7 := by omega
    exact wins_eq7 hr
end Go.Proofs.Ytnpiciabpgkiiad
