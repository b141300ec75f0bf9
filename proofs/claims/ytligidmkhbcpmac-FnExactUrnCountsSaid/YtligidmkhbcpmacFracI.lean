/- Fractions in the program: the greatest common divisor, bounds, lowest terms. -/
import Derived.Test.YtligidmkhbcpmacChecked
import Derived.Test.YtligidmkhbcpmacFracP
import Derived.Test.YtligidmkhbcpmacTreeH
import Derived.WalkKit
import Derived.ProofKit
import Derived.Outline
import Derived.Below
import Derived.Lib.Hide
import Derived.WalkSmall
import Derived.WalkSpells
import Derived.WalkLawsBesides
import Derived.Deep.QuietTactic
import Derived.BigQuiet
namespace Go.Proofs.Ytligidmkhbcpmac
open Go.RowKit
set_option linter.unusedVariables false
theorem gI_step {x y : Int} (hx : x ≠ 0) : gI (y.tmod x) x = gI x y := by
  unfold gI
  have h1 : Int.gcd (y.tmod x) x = Int.gcd x y := by
    rw [Int.gcd_comm]
    unfold Int.gcd
    rw [Int.natAbs_tmod, Nat.gcd_comm, ← Nat.gcd_rec]
  rw [h1]
theorem tmod_bd {x y : Int} (hx : x ≠ 0) : (y.tmod x).natAbs < x.natAbs := by
  rw [Int.natAbs_tmod]; exact Nat.mod_lt _ (by omega)
theorem ret_int' {k : IntKind} {a b : Int} (h : b = a) : Ending.returned (.int k a) = .returned (.int k b) := by rw [h]
theorem gI_zero_l (b : Int) : gI 0 b = (b.natAbs : Int) := by unfold gI; rw [Int.gcd_zero_left]
set_option maxHeartbeats 1000000 in
theorem gcdI (a b : Int) (w : World) (ha : -4000000000000000000 ≤ a ∧ a ≤ 4000000000000000000) (hb : -4000000000000000000 ≤ b ∧ b ≤ 4000000000000000000) :
    Calls Try.prog 183 #[.int .i64 a, .int .i64 b] w fun e w' => e = .returned (.int .i64 (gI a b)) ∧ w = w' := by
  obtain ⟨ha1, ha2⟩ := ha
  obtain ⟨hb1, hb2⟩ := hb
  go_enter Try.func183, Try.ntmps183
  go_wp2
  go_loop [0, 1] (fun s t => ∃ x y : Int, s = .int .i64 x ∧ t = .int .i64 y ∧ (-4000000000000000000 ≤ x ∧ x ≤ 4000000000000000000) ∧ (-4000000000000000000 ≤ y ∧ y ≤ 4000000000000000000) ∧ Hid (gI x y = gI a b)) (fun s _ => (intOf s).natAbs)
  case atStart => exact ⟨a, b, rfl, rfl, ⟨ha1, ha2⟩, ⟨hb1, hb2⟩, Lib.hid rfl⟩
  case round =>
    obtain ⟨x, y, rfl, rfl, ⟨hx1, hx2⟩, ⟨hy1, hy2⟩, HG⟩ := hrel
    by_cases h0 : x = 0
    · subst h0
      have R := Lib.hid (show gI a b = (y.natAbs : Int) by rw [← HG.out, gI_zero_l])
      clear HG
      go_wp2
      all_goals
        go_ret
        exact ⟨ret_int' (by rw [R.out]; omega), rfl⟩
    · have G2 := Lib.hid ((gI_step (y := y) h0).trans HG.out)
      have T := tmod_bd (y := y) h0
      clear HG
      go_wp2
      go_round
      case rel => exact ⟨_, _, rfl, rfl, by omega, by omega, G2⟩
      case measure => simpa [intOf] using T
theorem inB_mk {n d : Int} {b : Bool} (h : b = true ↔ (-1000000000 ≤ n ∧ n ≤ 1000000000 ∧ 1 ≤ d ∧ d ≤ 1000000)) : inB n d = b := by
  unfold inB; rw [Bool.eq_iff_iff, h]; simp
set_option maxHeartbeats 1000000 in
theorem inBI (n d : Int) (w : World) :
    Calls Try.prog 232 #[.agg #[.int .i64 n, .int .i64 d]] w fun e w' => e = .returned (.bool (inB n d)) ∧ Below w.heap.size w w' := by
  have B1 := (Below.refl w.heap.size w).alloc (Nat.le_refl _) (.cells #[.int .i64 n, .int .i64 d] 26)
  by_cases h1 : -1000000000 ≤ n
  · by_cases h2 : n ≤ 1000000000
    · by_cases h3 : 1 ≤ d
      · by_cases h4 : d ≤ 1000000
        · rw [inB_mk (b := true) (by simp; omega)]
          go_enter Try.func232, Try.ntmps232
          go_wp2
          go_ret
          exact ⟨rfl, B1⟩
        · rw [inB_mk (b := false) (by simp; omega)]
          go_enter Try.func232, Try.ntmps232
          go_wp2
          go_ret
          exact ⟨rfl, B1⟩
      · rw [inB_mk (b := false) (by simp; omega)]
        go_enter Try.func232, Try.ntmps232
        go_wp2
        go_ret
        exact ⟨rfl, B1⟩
    · rw [inB_mk (b := false) (by simp; omega)]
      go_enter Try.func232, Try.ntmps232
      go_wp2
      go_ret
      exact ⟨rfl, B1⟩
  · rw [inB_mk (b := false) (by simp; omega)]
    go_enter Try.func232, Try.ntmps232
    go_wp2
    go_ret
    exact ⟨rfl, B1⟩
end Go.Proofs.Ytligidmkhbcpmac
