/- IsSpread, AreAlike, DistanceOf, IsAbove, EarthDistance, IsWider in the model: what they answer. -/
import Derived.Test.YtligidmkhbcpmabSprM
import Derived.Test.YtligidmkhbcpmabSprV
import Derived.Deep.QuietTactic
import Derived.BigQuiet
namespace Go.Proofs.Ytligidmkhbcpmab
open Go.RowKit
set_option linter.unusedVariables false
set_option maxRecDepth 100000 in
set_option maxHeartbeats 4000000 in
theorem momentS (zs : List Int) (v : Value) (B : Nat) (w : World) (hn : zs.length ≤ 8) (hb : ∀ i, i < zs.length → 0 ≤ zs.getD i 0 ∧ zs.getD i 0 ≤ 40) (hv : IntsV w B v zs) :
    Calls Try.prog 47 #[v] w fun e w' => e = .returned (.int .i64 (moT zs zs.length)) ∧ w = w' := by
  obtain ⟨q1, c1, rfl, _, _, _, iq⟩ := hv
  have E1 := Lib.hid iq
  have PA := Lib.hid hb
  have ST := Lib.hid (fun k => show moT zs (k + 1) = moT zs k + zs.getD k 0 * (k : Int) by simp only [moT]; rw [Int.mul_comm])
  have SB := Lib.hid (fun k (hk : k ≤ zs.length) => moT_bd (zs := zs) (B := 40) (N := 8) hn (fun i hi => hb i hi) k hk)
  clear iq hb
  go_enter Try.func47, Try.ntmps47
  go_wp2_with fail
  go_loopg [3, 4] zs.length (fun gg t i wr => ∃ k : Nat, k ≤ zs.length ∧ zs.length - k ≤ gg ∧ i = .int .i64 k ∧ t = .int .i64 (moT zs k) ∧ w = wr)
  case atStart => exact ⟨0, Nat.zero_le _, by omega, rfl, rfl, rfl⟩
  case round =>
    obtain ⟨k, hk, hgg, rfl, rfl, rfl⟩ := hrel
    by_cases hlt : k < zs.length
    · obtain ⟨b, off, rfl, hb, hc⟩ := E1.out.get (i := k) (by omega)
      have i0 : (0 : Int) ≤ (k : Int) := by omega
      have i1 : (k : Int) < (zs.length : Int) := by omega
      have xb := PA.out k (by omega)
      have sb := SB.out k hk
      have st := Lib.hid (ST.out k)
      have kb : k * (8 * 40) ≤ 2560 := by omega
      have e0 : 0 ≤ zs.getD k 0 * (k : Int) := Int.mul_nonneg xb.1 (by omega)
      have e1 : zs.getD k 0 * (k : Int) ≤ 40 * 8 := Int.mul_le_mul xb.2 (by omega) (by omega) (by omega)
      have WM : IntKind.i64.wrap (zs.getD k 0 * (k : Int)) = zs.getD k 0 * (k : Int) := IntWalk.i64_in _ (by omega)
      obtain ⟨x, hx⟩ : ∃ z, z = zs.getD k 0 := ⟨_, rfl⟩
      rw [← hx] at hc st xb e0 e1 WM
      obtain ⟨t, ht⟩ : ∃ t, t = moT zs k := ⟨_, rfl⟩
      rw [← ht] at sb st ⊢
      have sb1 : 0 ≤ t ∧ t ≤ 2560 := by omega
      have W2 : IntKind.i64.wrap (t + x * (k : Int)) = t + x * (k : Int) := IntWalk.i64_in _ (by omega)
      clear hx ht sb kb hb
      go_wp2_with fail
      go_roundg (zs.length - (k + 1))
      case rel => exact ⟨k + 1, by omega, by omega, by go_num, by rw [st.out], rfl⟩
      case measure => omega
    · have hkz : k = zs.length := by omega
      have FIN := Lib.hid (show moT zs k = moT zs zs.length by rw [hkz])
      clear hkz
      go_wp2_with fail
      go_ret
      exact ⟨by rw [FIN.out]; rfl, rfl⟩
end Go.Proofs.Ytligidmkhbcpmab
