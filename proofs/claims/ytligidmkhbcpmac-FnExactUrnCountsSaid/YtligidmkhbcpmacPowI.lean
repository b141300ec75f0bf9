/- Powers in the program. -/
import Derived.Test.YtligidmkhbcpmacWlkF
namespace Go.Proofs.Ytligidmkhbcpmac
open Go.RowKit
set_option linter.unusedVariables false
set_option maxRecDepth 100000 in
set_option maxHeartbeats 2000000 in
theorem powC (b k : Nat) (w : World) (hb : b ≤ 20) (h : ∀ j, j ≤ k → b ^ j ≤ 4096000000000000) (hk : k ≤ 1000) : Calls Try.prog 143 #[.int .i64 b, .int .i64 k] w (QR (.int .i64 (b ^ k : Nat)) w) := by
  have PB := Lib.hid h
  have PS := Lib.hid (fun i => show b ^ (i + 1) = b ^ i * b from Nat.pow_succ ..)
  have P0 := Lib.hid (show b ^ 0 = 1 from Nat.pow_zero _)
  clear h
  obtain ⟨F, hF⟩ : ∃ F : Nat → Nat, F = fun i => b ^ i := ⟨_, rfl⟩
  have FD : ∀ i, b ^ i = F i := fun i => by rw [hF]
  simp only [FD] at PB PS P0 ⊢
  clear hF FD
  go_enter Try.func143, Try.ntmps143
  go_wp2_with fail
  go_loopg [5, 7] k (fun gg s t wr => ∃ i : Nat, i ≤ k ∧ k - i ≤ gg ∧ s = .int .i64 (F i : Nat) ∧ t = .int .i64 i ∧ w = wr)
  case atStart => exact ⟨0, Nat.zero_le _, by omega, by rw [P0.out]; rfl, rfl, rfl⟩
  case round =>
    obtain ⟨i, hi, hgg, rfl, rfl, rfl⟩ := hrel
    by_cases hlt : i < k
    · have pb := PB.out i hi
      have pb1 := PB.out (i + 1) (by omega)
      have ps := PS.out i
      have WR : IntKind.i64.wrap ((F i : Int) * (b : Int)) = (F i : Int) * (b : Int) := IntWalk.i64_in _ (by rw [← Int.natCast_mul, ← ps]; omega)
      have PE := Lib.hid (show ((F i : Int) * (b : Int)) = (F (i + 1) : Nat) by rw [ps, Int.natCast_mul])
      clear ps pb1
      go_wp2_with fail
      go_roundg (k - (i + 1))
      case rel => exact ⟨i + 1, by omega, by omega, by rw [← PE.out], by go_num, rfl⟩
      case measure => omega
    · have hik : i = k := by omega
      subst hik
      go_wp2_with fail
      go_ret
      exact ⟨rfl, rfl⟩
end Go.Proofs.Ytligidmkhbcpmac
