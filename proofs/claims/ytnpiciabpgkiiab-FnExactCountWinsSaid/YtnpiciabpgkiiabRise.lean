/- Events in the model. -/
import Derived.Test.YtnpiciabpgkiiabEvP
import Derived.Test.YtnpiciabpgkiiabLawT
import Derived.Test.YtnpiciabpgkiiabSumS
namespace Go.Proofs.Ytnpiciabpgkiiab
open Go.RowKit
set_option linter.unusedVariables false
theorem inL_no {l : List Int} {k : Nat} {z : Int} (h : k < l.length) (hn : inL (l.take k) z = false) (hz : l.getD k 0 ≠ z) : inL (l.take (k + 1)) z = false := by
  rw [inL_take h, if_neg (fun e => hz e.symm)]; exact hn
theorem inL_yes {l : List Int} {k : Nat} {z : Int} (h : k < l.length) (hz : l.getD k 0 = z) : inL l z = true := by
  unfold inL
  rw [decide_eq_true_iff, ← hz, List.getD_eq_getElem?_getD, List.getElem?_eq_getElem h]
  exact List.getElem_mem h
set_option maxHeartbeats 1000000 in
theorem hasS (zs : List Int) (z : Int) (v : Value) (B : Nat) (w : World) (hl : zs.length ≤ 1048576) (h : IntsV w B v zs) :
    Calls Try.prog 94 #[v, .int .i64 z] w fun e w' => e = .returned (.bool (inL zs z)) ∧ ∃ n, w' = w.drewN n := by
  obtain ⟨q, cq, rfl, lq, mq, zq, iq⟩ := h
  have E1 := Lib.hid iq
  clear iq zq mq
  go_enter Try.func94, Try.ntmps94
  go_wp2
  go_loopw [5] (fun i wr => ∃ k : Nat, k ≤ zs.length ∧ i = .int .i64 k ∧ Hid (inL (zs.take k) z = false) ∧ ∃ n, wr = w.drewN n) (fun i _ => zs.length - (intOf i).toNat)
  case atStart => exact ⟨0, Nat.zero_le _, rfl, Lib.hid (by simp [inL]), 0, rfl⟩
  case round =>
    obtain ⟨k, hk, rfl, HN, n, rfl⟩ := hrel
    by_cases hlt : k < zs.length
    · obtain ⟨b, off, rfl, hb, hc⟩ := E1.out.get hlt
      have i0 : (0 : Int) ≤ (k : Int) := by omega
      have i1 : (k : Int) < (zs.length : Int) := by omega
      have Y := Lib.hid (inL_yes (z := z) hlt)
      have N := Lib.hid (inL_no (z := z) hlt HN.out)
      obtain ⟨x, hx⟩ : ∃ x, x = zs.getD k 0 := ⟨_, rfl⟩
      rw [← hx] at hc Y N
      clear hx HN
      by_cases hxz : x = z
      · have R := Lib.hid (Y.out hxz)
        have hb1 : (x == z) = true := by simpa using hxz
        clear Y N hxz
        go_wp2
        go_ret
        exact ⟨ret_b R.out, n, rfl⟩
      · have R := Lib.hid (N.out hxz)
        have hb1 : (x == z) = false := by simpa using hxz
        clear Y N hxz
        go_wp2
        go_roundw
        case rel => exact ⟨k + 1, by omega, by go_num, R, n, rfl⟩
        case measure => simp [intOf]; omega
    · have R : Hid (inL zs z = false) := Lib.hid (by have := HN.out; rwa [show k = zs.length by omega, List.take_of_length_le (Nat.le_refl _)] at this)
      clear HN
      go_wp2
      go_ret
      exact ⟨ret_b R.out, n, rfl⟩
/-- Numbers that rise, of nodes. -/
def riAt (n : Nat) (evs : List Int) (i : Nat) : Bool := decide (0 ≤ evs.getD i 0 ∧ evs.getD i 0 ≤ (n : Int) - 1) && (decide (i = 0) || decide (evs.getD (i - 1) 0 < evs.getD i 0))
def riB (n : Nat) (evs : List Int) : Bool := (List.range evs.length).all (riAt n evs)
theorem riB_false {n : Nat} {evs : List Int} {i : Nat} (hi : i < evs.length) (h : riAt n evs i = false) : riB n evs = false := by
  cases hb : riB n evs
  · rfl
  · unfold riB at hb
    rw [List.all_eq_true] at hb
    rw [hb i (List.mem_range.2 hi)] at h
    cases h
def poAt (ws evs : List Int) (i : Nat) : Bool := decide (0 < ws.getD (evs.getD i 0).toNat 0)
theorem evAt_parts (ps ws evs : List Int) (i : Nat) : evAt ps ws evs i = (riAt ps.length evs i && poAt ws evs i) := by
  unfold evAt riAt poAt
  have : decide (0 ≤ evs.getD i 0 ∧ evs.getD i 0 < (ps.length : Int)) = decide (0 ≤ evs.getD i 0 ∧ evs.getD i 0 ≤ (ps.length : Int) - 1) := by
    congr 1; apply propext; constructor <;> rintro ⟨a, b⟩ <;> exact ⟨a, by omega⟩
  rw [this, Bool.and_assoc, Bool.and_comm (decide (0 < _))]
end Go.Proofs.Ytnpiciabpgkiiab
