/- Two rows of ints compared in the laws with draws. -/
import Derived.Test.YtmidlabgmmejbabPrm
import Derived.Deep.QuietTactic
import Derived.BigQuiet
namespace Go.Proofs.Ytmidlabgmmejbab
open Go.RowKit
set_option linter.unusedVariables false
theorem vIntsV (zs : List Int) (v u : Value) (B C : Nat) (w : World) (hp : IntsV w B v zs) (hq : IntsV w C u zs) :
    Calls Try.prog 46 #[v, u] w (Gives (.bool true) w) := by
  have hn := hp.len
  obtain ⟨p, c, rfl, _, _, _, hp⟩ := hp
  obtain ⟨q, d, rfl, _, _, _, hq⟩ := hq
  have P := Lib.hid hp
  have Q := Lib.hid hq
  clear hp hq
  go_enter Try.func46, Try.ntmps46
  go_wp2
  go_loopw [5] (fun i wr => ∃ k : Nat, k ≤ zs.length ∧ i = .int .i64 k ∧ ∃ n, wr = w.drewN n) (fun i _ => zs.length - (intOf i).toNat)
  case atStart => exact ⟨0, Nat.zero_le _, rfl, 0, rfl⟩
  case round =>
    obtain ⟨k, hk, rfl, n, rfl⟩ := hrel
    by_cases hlt : k < zs.length
    · obtain ⟨b, off, rfl, _, hc⟩ := P.out.at_ hlt
      obtain ⟨b2, off2, rfl, _, hc2⟩ := Q.out.at_ hlt
      have h0 : (0 : Int) ≤ (k : Int) := by omega
      have h1 : (k : Int) < (zs.length : Int) := by omega
      obtain ⟨x, hx⟩ : ∃ x : Int, x = zs[k] := ⟨_, rfl⟩
      rw [← hx] at hc hc2
      clear hx
      go_wp2
      go_quiet (fail)
      go_wp2
      go_roundw
      case rel => exact ⟨k + 1, by omega, by go_num, _, rfl⟩
      case measure => simp [intOf]; omega
    · go_wp2
      go_ret
      exact ⟨rfl, below_drewN (Below.refl _ _) n⟩
end Go.Proofs.Ytmidlabgmmejbab
