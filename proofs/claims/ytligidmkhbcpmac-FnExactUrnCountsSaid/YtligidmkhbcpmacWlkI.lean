/- Choices and walks, in the program and in the model. -/
import Derived.Test.YtligidmkhbcpmacInS
import Derived.Test.YtligidmkhbcpmacWlkP
import Derived.Deep.LoopGhost
import Derived.Deep.QuietTactic
import Derived.BigQuiet
import Derived.IntWalk
namespace Go.Proofs.Ytligidmkhbcpmac
open Go.RowKit
set_option linter.unusedVariables false
theorem fromI (x a b : Int) (w : World) : Calls Try.prog 89 #[.int .i64 x, .int .i64 a, .int .i64 b] w fun e w' => e = .returned (.bool (decide (a ≤ x ∧ x ≤ b))) ∧ w = w' := by
  by_cases h1 : a ≤ x
  · by_cases h2 : x ≤ b
    · rw [decide_eq_true ⟨h1, h2⟩]
      go_enter Try.func89, Try.ntmps89
      go_wp2
      go_ret
      exact ⟨rfl, rfl⟩
    · rw [decide_eq_false (fun h => h2 h.2)]
      go_enter Try.func89, Try.ntmps89
      go_wp2
      go_ret
      exact ⟨rfl, rfl⟩
  · rw [decide_eq_false (fun h => h1 h.1)]
    go_enter Try.func89, Try.ntmps89
    go_wp2
    go_ret
    exact ⟨rfl, rfl⟩
theorem chN_step (n k : Nat) (h : k ≤ n) : Int.tdiv ((chN n k : Int) * ((n : Int) - k)) ((k : Int) + 1) = (chN n (k + 1) : Nat) := by
  rw [show (n : Int) - k = ((n - k : Nat) : Int) by omega, ← Int.natCast_mul, Int.tdiv_eq_ediv_of_nonneg (by omega)]
  rfl
theorem chS_step (n k i : Nat) (h : k ≤ n) : Int.tdiv ((chS n k i : Int) * ((n : Int) - k + ((i : Int) + 1))) ((i : Int) + 1) = (chS n k (i + 1) : Nat) := by
  rw [show (n : Int) - k + ((i : Int) + 1) = ((n - k + (i + 1) : Nat) : Int) by omega, ← Int.natCast_mul, Int.tdiv_eq_ediv_of_nonneg (by omega)]
  rfl
set_option maxRecDepth 100000 in
set_option maxHeartbeats 1000000 in
theorem chooseC (n k : Nat) (w : World) (hn : n ≤ 30) (hk : k ≤ n) : Calls Try.prog 139 #[.int .i64 n, .int .i64 k] w fun e w' => e = .returned (.int .i64 (chN n k)) ∧ w = w' := by
  have CB := Lib.hid (fun i (hi : i < 31) => chN_bd n (by omega) i hi)
  have CS := Lib.hid (fun i (hi : i ≤ n) => chN_step n i hi)
  have C0 := Lib.hid (show chN n 0 = 1 from rfl)
  go_enter Try.func139, Try.ntmps139
  go_wp2_with fail
  go_loopg [5, 8] k (fun gg s t wr => ∃ i : Nat, i ≤ k ∧ k - i ≤ gg ∧ s = .int .i64 (chN n i) ∧ t = .int .i64 i ∧ w = wr)
  case atStart => exact ⟨0, Nat.zero_le _, by omega, rfl, rfl, rfl⟩
  case round =>
    obtain ⟨i, hi, hgg, rfl, rfl, rfl⟩ := hrel
    have cb := CB.out i (by omega)
    have cs := CS.out i (by omega)
    by_cases hlt : i < k
    · have pb : (chN n i) * (n - i) ≤ 155117520 * 30 := Nat.mul_le_mul cb (by omega)
      have e1 : ((chN n i : Nat) : Int) * ((n : Int) - i) = ((chN n i * (n - i) : Nat) : Int) := by rw [Int.natCast_mul]; congr 1; omega
      obtain ⟨p, hp⟩ : ∃ p : Int, p = ((chN n i : Nat) : Int) * ((n : Int) - i) := ⟨_, rfl⟩
      have pb2 : 0 ≤ p ∧ p ≤ 4653525600 := by omega
      have W1 : IntKind.i64.wrap (((chN n i : Nat) : Int) * ((n : Int) - i)) = p := by rw [← hp]; exact IntWalk.i64_in _ (by omega)
      rw [← hp] at cs
      obtain ⟨d, hd⟩ : ∃ d : Int, d = ((chN n (i + 1) : Nat) : Int) := ⟨_, rfl⟩
      have db := CB.out (i + 1) (by omega)
      have db2 : 0 ≤ d ∧ d ≤ 155117520 := by omega
      have HD := Lib.hid hd
      rw [← hd] at cs
      clear pb e1 hp hd db
      go_wp2_with fail
      go_roundg (k - (i + 1))
      case rel => exact ⟨i + 1, by omega, by omega, by rw [← HD.out], by go_num, rfl⟩
      case measure => omega
    · have hik : i = k := by omega
      subst hik
      go_wp2_with fail
      go_ret
      exact ⟨rfl, rfl⟩
set_option maxRecDepth 100000 in
set_option maxHeartbeats 1000000 in
theorem chooseS (n k : Nat) (w : World) (hn : n ≤ 30) (hk : k ≤ n) : Calls Try.prog 136 #[.int .i64 n, .int .i64 k] w fun e w' => e = .returned (.int .i64 (chN n k)) ∧ w = w' := by
  have CB := Lib.hid (fun i (hi : i < 31) (h : i ≤ k) => chS_bd n (by omega) k (by omega) i hi h hk)
  have CS := Lib.hid (fun i => chS_step n k i hk)
  have C0 := Lib.hid (show chS n k 0 = 1 from rfl)
  have CE := Lib.hid (chS_eq n (by omega) k (by omega) hk)
  have IN := Lib.hid (inS_true k 0 n w (by omega))
  rw [← CE.out]
  go_enter Try.func136, Try.ntmps136
  go_wp2_with fail
  refine IN.out.mono ?_
  rintro e w1 ⟨rfl, rfl⟩
  go_wp2_with fail
  go_loopg [5, 6] k (fun gg s t wr => ∃ i : Nat, i ≤ k ∧ k - i ≤ gg ∧ s = .int .i64 (chS n k i) ∧ t = .int .i64 ((i : Int) + 1) ∧ w = wr)
  case atStart => exact ⟨0, Nat.zero_le _, by omega, rfl, rfl, rfl⟩
  case round =>
    obtain ⟨i, hi, hgg, rfl, rfl, rfl⟩ := hrel
    have cb := CB.out i (by omega) hi
    have cs := CS.out i
    by_cases hlt : i < k
    · have pb : (chS n k i) * (n - k + (i + 1)) ≤ 155117520 * 30 := Nat.mul_le_mul cb (by omega)
      have e1 : ((chS n k i : Nat) : Int) * ((n : Int) - k + ((i : Int) + 1)) = ((chS n k i * (n - k + (i + 1)) : Nat) : Int) := by rw [Int.natCast_mul]; congr 1; omega
      obtain ⟨p, hp⟩ : ∃ p : Int, p = ((chS n k i : Nat) : Int) * ((n : Int) - k + ((i : Int) + 1)) := ⟨_, rfl⟩
      have pb2 : 0 ≤ p ∧ p ≤ 4653525600 := by omega
      have W1 : IntKind.i64.wrap (((chS n k i : Nat) : Int) * ((n : Int) - k + ((i : Int) + 1))) = p := by rw [← hp]; exact IntWalk.i64_in _ (by omega)
      rw [← hp] at cs
      obtain ⟨d, hd⟩ : ∃ d : Int, d = ((chS n k (i + 1) : Nat) : Int) := ⟨_, rfl⟩
      have db := CB.out (i + 1) (by omega) (by omega)
      have db2 : 0 ≤ d ∧ d ≤ 155117520 := by omega
      have HD := Lib.hid hd
      rw [← hd] at cs
      have t1 : (i : Int) + 1 ≤ (k : Int) := by omega
      clear pb e1 hp hd db
      go_wp2_with fail
      go_roundg (k - (i + 1))
      case rel => exact ⟨i + 1, by omega, by omega, by rw [← HD.out], by go_num, rfl⟩
      case measure => omega
    · have hik : i = k := by omega
      subst hik
      have t1 : ¬ (i : Int) + 1 ≤ (i : Int) := by omega
      go_wp2_with fail
      go_ret
      exact ⟨rfl, rfl⟩
end Go.Proofs.Ytligidmkhbcpmac
