/- Fractions in the program: compared. -/
import Derived.Test.YtnpiciabpgkiiadFracA
import Derived.WalkKit
import Derived.ProofKit
import Derived.Outline
import Derived.Below
import Derived.Lib.Hide
import Derived.WalkSmall
import Derived.WalkSpells
import Derived.WalkLawsBesides
import Derived.IntWalk
namespace Go.Proofs.Ytnpiciabpgkiiad
open Go.RowKit
set_option linter.unusedVariables false
theorem compareI (x y : Int) (w : World) :
    Calls Try.prog 182 #[.int .i64 x, .int .i64 y] w fun e w' => e = .returned (.int .i64 (ordI x y)) ∧ w = w' := by
  unfold ordI
  by_cases h1 : x < y
  · rw [if_pos h1]
    have h2 : ¬ y < x := by omega
    go_enter Try.func182, Try.ntmps182
    go_wp2
    go_ret
    exact ⟨rfl, rfl⟩
  · rw [if_neg h1]
    by_cases h2 : y < x
    · rw [if_pos h2]
      go_enter Try.func182, Try.ntmps182
      go_wp2
      go_ret
      exact ⟨rfl, rfl⟩
    · rw [if_neg h2]
      go_enter Try.func182, Try.ntmps182
      go_wp2
      go_ret
      exact ⟨rfl, rfl⟩
set_option maxRecDepth 100000 in
set_option maxHeartbeats 1000000 in
theorem cmpI_no1 (n d m e : Int) (w : World) (h : isFr n d = false) :
    Calls Try.prog 135 #[.agg #[.int .i64 n, .int .i64 d], .agg #[.int .i64 m, .int .i64 e]] w (Gives zeroC w) := by
  have C := Lib.hid (fun w => isFracI n d w)
  rw [h] at C
  clear h
  have B := blocks2_below w n d m e
  go_enter Try.func135, Try.ntmps135
  go_wp2_with fail
  refine (C.out (Blocks2 w n d m e)).mono ?_
  rintro e w1 ⟨rfl, b1⟩
  obtain ⟨_, _, _, _⟩ := cells2 b1
  have BB := Lib.hid (B.trans (b1.mono B.size))
  clear b1 B
  go_wp2_with fail
  go_ret2
  exact ⟨rfl, BB.out⟩
set_option maxRecDepth 100000 in
set_option maxHeartbeats 1000000 in
theorem cmpI_no2 (n d m e : Int) (w : World) (h1 : isFr n d = true) (h : isFr m e = false) :
    Calls Try.prog 135 #[.agg #[.int .i64 n, .int .i64 d], .agg #[.int .i64 m, .int .i64 e]] w (Gives zeroC w) := by
  have C1 := Lib.hid (fun w => isFracI n d w)
  have C2 := Lib.hid (fun w => isFracI m e w)
  rw [h1] at C1
  rw [h] at C2
  clear h h1
  have B := blocks2_below w n d m e
  go_enter Try.func135, Try.ntmps135
  go_wp2_with fail
  refine (C1.out (Blocks2 w n d m e)).mono ?_
  rintro e w1 ⟨rfl, b1⟩
  have Z := Lib.hid (cells2 b1)
  obtain ⟨_, _, z0, z1⟩ := cells2 b1
  have B1 := Lib.hid b1
  clear b1
  go_wp2_with fail
  refine (C2.out w1).mono ?_
  rintro e w2 ⟨rfl, b2⟩
  have b3 := B1.out.trans (b2.mono B1.out.size)
  clear z0 z1
  obtain ⟨_, _, _, _⟩ := cells2 b3
  have BB := Lib.hid (B.trans (b3.mono B.size))
  clear b2 b3 B
  go_wp2_with fail
  go_ret2
  exact ⟨rfl, BB.out⟩
set_option maxRecDepth 100000 in
set_option maxHeartbeats 1000000 in
theorem cmpI_yes (n d m e : Int) (w : World) (h1 : isFr n d = true) (h2 : isFr m e = true) :
    Calls Try.prog 135 #[.agg #[.int .i64 n, .int .i64 d], .agg #[.int .i64 m, .int .i64 e]] w (Gives (.tuple #[.int .i64 (ordI (n * e) (m * d)), .bool true]) w) := by
  have C1 := Lib.hid (fun w => isFracI n d w)
  have C2 := Lib.hid (fun w => isFracI m e w)
  rw [h1] at C1
  rw [h2] at C2
  obtain ⟨⟨n1, n2, d1, d2⟩, _⟩ := (isFr_iff n d).1 h1
  obtain ⟨⟨m1, m2, e1, e2⟩, _⟩ := (isFr_iff m e).1 h2
  clear h1 h2
  have q1 := mul_bd (x := n) (y := e) 1000000000 1000000 (by omega) (by omega)
  have q2 := mul_bd (x := m) (y := d) 1000000000 1000000 (by omega) (by omega)
  have q3 := mul_bd (x := d) (y := e) 1000000 1000000 (by omega) (by omega)
  have q4 := Int.mul_pos (show 0 < d by omega) (show 0 < e by omega)
  have q5 := mul_bd (x := n) (y := m) 1000000000 1000000000 (by omega) (by omega)
  have R := Lib.hid (fun W => compareI (n * e) (m * d) W)
  have B := blocks2_below w n d m e
  obtain ⟨q1a, q1b⟩ : -1000000000000000 ≤ n * e ∧ n * e ≤ 1000000000000000 := by omega
  obtain ⟨q2a, q2b⟩ : -1000000000000000 ≤ m * d ∧ m * d ≤ 1000000000000000 := by omega
  obtain ⟨q3a, q3b⟩ : -1000000000000 ≤ d * e ∧ d * e ≤ 1000000000000 := by omega
  obtain ⟨q5a, q5b⟩ : -1000000000000000000 ≤ n * m ∧ n * m ≤ 1000000000000000000 := by omega
  clear q1 q2 q3 q5
  go_enter Try.func135, Try.ntmps135
  go_wp2_with fail
  refine (C1.out (Blocks2 w n d m e)).mono ?_
  rintro e w1 ⟨rfl, b1⟩
  obtain ⟨_, _, z0, z1⟩ := cells2 b1
  have B1 := Lib.hid b1
  clear b1
  go_wp2_with fail
  refine (C2.out w1).mono ?_
  rintro e w2 ⟨rfl, b2⟩
  have b3 := B1.out.trans (b2.mono B1.out.size)
  clear z0 z1
  obtain ⟨a0, a1, z0, z1⟩ := cells2 b3
  have B3 := Lib.hid b3
  clear b2 b3
  go_wp2_with fail
  refine (R.out w2).mono ?_
  rintro e w3 ⟨rfl, rfl⟩
  go_wp2_with fail
  go_ret2
  exact ⟨rfl, B.trans (B3.out.mono B.size)⟩
theorem cmpI (n d m e : Int) (w : World) :
    Calls Try.prog 135 #[.agg #[.int .i64 n, .int .i64 d], .agg #[.int .i64 m, .int .i64 e]] w (Gives (cmpV n d m e) w) := by
  unfold cmpV
  cases h1 : isFr n d
  · rw [if_neg (by simp)]; exact cmpI_no1 n d m e w h1
  · cases h2 : isFr m e
    · rw [if_neg (by simp)]; exact cmpI_no2 n d m e w h1 h2
    · rw [if_pos ⟨rfl, rfl⟩]; exact cmpI_yes n d m e w h1 h2
end Go.Proofs.Ytnpiciabpgkiiad
