/- Powers of -1 and orders without a match, in the program and in the model. -/
import Derived.Test.YtligidmkhbcpmacPowI
import Derived.Test.YtligidmkhbcpmacCrdP
namespace Go.Proofs.Ytligidmkhbcpmac
open Go.RowKit
set_option linter.unusedVariables false
def okC (l n : Int) : Bool := decide (l ≤ n ∧ n ≤ 12)
set_option maxRecDepth 100000 in
set_option maxHeartbeats 2000000 in
theorem powNeg (k : Nat) (w : World) (hk : k ≤ 1000) : Calls Try.prog 143 #[.int .i64 (-1), .int .i64 k] w (QR (.int .i64 (sgN k)) w) := by
  have PB := Lib.hid sg_bd
  have PS := Lib.hid sg_succ
  have P0 := Lib.hid sg_zero
  obtain ⟨F, hF⟩ : ∃ F : Nat → Int, F = sgN := ⟨_, rfl⟩
  rw [← hF] at PB PS P0 ⊢
  clear hF
  go_enter Try.func143, Try.ntmps143
  go_wp2_with fail
  go_loopg [5, 7] k (fun gg s t wr => ∃ i : Nat, i ≤ k ∧ k - i ≤ gg ∧ s = .int .i64 (F i) ∧ t = .int .i64 i ∧ w = wr)
  case atStart => exact ⟨0, Nat.zero_le _, by omega, by rw [P0.out], rfl, rfl⟩
  case round =>
    obtain ⟨i, hi, hgg, rfl, rfl, rfl⟩ := hrel
    by_cases hlt : i < k
    · have pb := PB.out i
      have PE := PS.out i
      obtain ⟨x, hx⟩ : ∃ x, x = F i := ⟨_, rfl⟩
      rw [← hx] at pb PE
      have HX := Lib.hid hx
      have WR : IntKind.i64.wrap (x * -1) = x * -1 := IntWalk.i64_in _ (by omega)
      have WS : IntKind.i64.wrap (-x) = -x := IntWalk.i64_in _ (by omega)
      have PH := Lib.hid PE
      rw [← hx]
      clear PE hx
      go_wp2_with fail
      go_roundg (k - (i + 1))
      case rel => exact ⟨i + 1, by omega, by omega, by rw [PH.out]; try (congr 1; omega), by go_num, rfl⟩
      case measure => omega
    · have hik : i = k := by omega
      subst hik
      go_wp2_with fail
      go_ret
      exact ⟨rfl, rfl⟩
def dcV (n : Int) : Int := if okC 0 n = true then dgN n.toNat else 0
end Go.Proofs.Ytligidmkhbcpmac
