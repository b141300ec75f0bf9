/- Fractions in the model: bounds, the greatest common divisor, whether a pair is a fraction. -/
import Derived.Test.YtligidmkhbcpmacInS
import Derived.Test.YtligidmkhbcpmacPrm
import Derived.Test.YtligidmkhbcpmacFracB
import Derived.WalkKit
import Derived.ProofKit
import Derived.Outline
import Derived.Below
import Derived.Lib.Hide
import Derived.WalkSmall
import Derived.WalkSpells
import Derived.WalkLawsBesides
import Derived.Deep.QuietTactic
import Derived.BigQuiet
namespace Go.Proofs.Ytligidmkhbcpmac
open Go.RowKit
set_option linter.unusedVariables false
theorem absS (a : Int) (w : World) (h : -9000000000000000000 ≤ a ∧ a ≤ 9000000000000000000) :
    Calls Try.prog 202 #[.int .i64 a] w fun e w' => e = .returned (.int .i64 (a.natAbs : Int)) ∧ w = w' := by
  obtain ⟨h1, h2⟩ := h
  have M := Lib.hid (fun w => mostS a (-a) w)
  rw [show max a (-a) = (a.natAbs : Int) by omega] at M
  go_enter Try.func202, Try.ntmps202
  go_wp2_with fail
  refine (M.out _).mono ?_
  rintro e w1 ⟨rfl, rfl⟩
  go_wp2_with fail
  go_ret
  exact ⟨rfl, rfl⟩
theorem gI_stepS {x y : Int} (hx : 0 ≤ x) (hy : 0 < y) : gI y (x % y) = gI x y := by
  unfold gI
  have : Int.gcd y (x % y) = Int.gcd x y := by
    unfold Int.gcd
    rw [Int.natAbs_emod_of_nonneg hx, Nat.gcd_comm, ← Nat.gcd_rec, Nat.gcd_comm]
  rw [this]
theorem gI_zero_r (a : Int) : gI a 0 = (a.natAbs : Int) := by unfold gI; rw [Int.gcd_zero_right]
set_option maxHeartbeats 1000000 in
theorem gcdS (a b : Int) (w : World) (ha : 0 ≤ a ∧ a ≤ 4000000000000000000) (hb : 0 ≤ b ∧ b ≤ 4000000000000000000) :
    Calls Try.prog 201 #[.int .i64 a, .int .i64 b] w fun e w' => e = .returned (.int .i64 (gI a b)) ∧ ∃ n, w' = w.drewN n := by
  obtain ⟨ha1, ha2⟩ := ha
  obtain ⟨hb1, hb2⟩ := hb
  go_enter Try.func201, Try.ntmps201
  go_wp2
  go_loopw [0, 1] (fun s t wr => ∃ x y : Int, s = .int .i64 x ∧ t = .int .i64 y ∧ (0 ≤ x ∧ x ≤ 4000000000000000000) ∧ (0 ≤ y ∧ y ≤ 4000000000000000000) ∧ Hid (gI x y = gI a b) ∧ ∃ n, wr = w.drewN n) (fun _ t _ => (intOf t).natAbs)
  case atStart => exact ⟨a, b, rfl, rfl, ⟨ha1, ha2⟩, ⟨hb1, hb2⟩, Lib.hid rfl, 0, rfl⟩
  case round =>
    obtain ⟨x, y, rfl, rfl, ⟨hx1, hx2⟩, ⟨hy1, hy2⟩, HG, n, rfl⟩ := hrel
    by_cases h0 : 0 < y
    · have G2 := Lib.hid ((gI_stepS (y := y) hx1 h0).trans HG.out)
      have T1 := Int.emod_nonneg x (show y ≠ 0 by omega)
      have T2 := Int.emod_lt_of_pos x h0
      clear HG
      go_wp2
      go_quiet (fail)
      go_wp2
      go_roundw
      case rel => exact ⟨_, _, rfl, rfl, by omega, by omega, G2, _, World.drewN_drewN _ _ _⟩
      case measure => simp [intOf]; omega
    · obtain rfl : y = 0 := by omega
      have R := Lib.hid (show gI a b = x by rw [← HG.out, gI_zero_r]; omega)
      clear HG
      go_wp2
      go_ret
      exact ⟨ret_int' R.out, _, rfl⟩
theorem gI_abs (n d : Int) : gI (n.natAbs : Int) d = gI n d := by unfold gI Int.gcd; simp
set_option maxHeartbeats 1000000 in
theorem fracS (n d : Int) (w : World) :
    Calls Try.prog 235 #[.agg #[.int .i64 n, .int .i64 d]] w fun e w' => e = .returned (.bool (isFr n d)) ∧ Below w.heap.size w w' := by
  have B1 := (Below.refl w.heap.size w).alloc (Nat.le_refl _) (.cells #[.int .i64 n, .int .i64 d] 26)
  by_cases hn : -1000000000 ≤ n ∧ n ≤ 1000000000
  · by_cases hd : 1 ≤ d ∧ d ≤ 1000000
    · have hr : isFr n d = (gI n d == 1) := by
        unfold isFr inB
        rw [decide_eq_true ⟨hn.1, hn.2, hd.1, hd.2⟩]; rfl
      rw [hr]
      have I1 := Lib.hid (fun w => inS_true n (-1000000000) 1000000000 w hn)
      have I2 := Lib.hid (fun w => inS_true d 1 1000000 w hd)
      have A := Lib.hid (fun w => absS n w (by omega))
      have G := Lib.hid (fun w => gcdS (n.natAbs : Int) d w (by omega) (by omega))
      rw [gI_abs] at G
      generalize (n.natAbs : Int) = na at *
      generalize gI n d = g at *
      clear hr hn hd
      go_enter Try.func235, Try.ntmps235
      go_wp2_with fail
      go_quiet ((first | (go_at_call 88; first | with_reducible exact quiet_left (I1.out _) | with_reducible exact quiet_left (I2.out _)) | (go_at_call 202; exact quiet_left (A.out _)) | (go_at_call 201; exact quiet_draw (G.out _))))
      go_wp2_with fail
      go_ret
      exact ⟨rfl, below_drewN B1 _⟩
    · have hr : isFr n d = false := by
        unfold isFr inB
        rw [decide_eq_false (by omega)]; rfl
      rw [hr]
      have I1 := Lib.hid (fun w => inS_true n (-1000000000) 1000000000 w hn)
      have I2 := Lib.hid (fun w => inS_false d 1 1000000 w hd)
      clear hr hn hd
      go_enter Try.func235, Try.ntmps235
      go_wp2_with fail
      go_quiet ((first | (go_at_call 88; first | with_reducible exact quiet_left (I1.out _) | with_reducible exact quiet_left (I2.out _))))
      go_wp2_with fail
      go_ret
      exact ⟨rfl, below_drewN B1 _⟩
  · have hr : isFr n d = false := by
      unfold isFr inB
      rw [decide_eq_false (by omega)]; rfl
    rw [hr]
    have I1 := Lib.hid (fun w => inS_false n (-1000000000) 1000000000 w hn)
    clear hr hn
    go_enter Try.func235, Try.ntmps235
    go_wp2_with fail
    go_quiet ((first | (go_at_call 88; exact quiet_left (I1.out _))))
    go_wp2_with fail
    go_ret
    exact ⟨rfl, below_drewN B1 _⟩
end Go.Proofs.Ytligidmkhbcpmac
