/- The program's reader of decimals and the model's, as contracts of the translated text. -/
import Derived.Test.YthpkabjgjgmnoaaDoorFmt
import Derived.WalkKit
import Derived.ProofKit
import Derived.Outline
import Derived.Lib.Hide
import Derived.WalkMore
import Derived.Deep.LoopGhost
namespace Go.Proofs.YthpkabjgjgmnoaaDoor
open Go.RowKit
/-- An integer, whichever. -/
def SomeInt (w : World) (e : Ending) (w' : World) : Prop := ∃ n : Int, e = .returned (.int .i64 n) ∧ w = w'
def AnInt (v : Value) : Prop := ∃ n : Int, v = .int .i64 n
set_option maxHeartbeats 400000 in
theorem readDec_any (s : ByteArray) (w : World) (hs : s.size ≤ maxLen) :
    Calls Tryd.prog 28 #[.string s] w (SomeInt w) := by
  unfold maxLen at hs
  go_enter Tryd.func28, Tryd.ntmps28
  go_wp2
  go_step3
  go_wp2
  go_step3
  go_wp2
  go_loop [3, 4, 9] (fun n g i => ∃ k : Nat, k ≤ s.size ∧ i = .int .i64 k ∧ AnInt n ∧ AnInt g) (fun _ _ i => s.size - (intOf i).toNat)
  case atStart => exact ⟨0, Nat.zero_le _, rfl, ⟨_, rfl⟩, ⟨_, rfl⟩⟩
  case round =>
    obtain ⟨k, hk, rfl, ⟨n, rfl⟩, ⟨g, rfl⟩⟩ := hrel
    go_wp2
    all_goals first
      | (go_ret; exact ⟨_, rfl, rfl⟩)
      | (go_round
         case rel => exact ⟨k + 1, by omega, by go_num, ⟨_, rfl⟩, ⟨_, rfl⟩⟩
         case measure => simp [intOf]; omega)
/-- The sign behind k bytes of a numeral. -/
def sgn (m : Int) (k : Nat) : Int := if m < 0 ∧ 0 < k then -1 else 1
theorem sgn_succ_neg (m : Int) (k : Nat) (h : m < 0) : sgn m (k + 1) = -1 := by unfold sgn; rw [if_pos ⟨h, by omega⟩]
theorem sgn_same (m : Int) (k : Nat) (h : ¬ (m < 0 ∧ k = 0)) : sgn m (k + 1) = sgn m k := by
  unfold sgn
  by_cases hm : m < 0
  · rw [if_pos ⟨hm, by omega⟩, if_pos ⟨hm, by omega⟩]
  · rw [if_neg (by omega), if_neg (by omega)]
theorem sgn_end (m : Int) (k : Nat) (h : 1 ≤ k) : sgn m k * (m.natAbs : Int) = m := by
  unfold sgn
  by_cases hm : m < 0
  · rw [if_pos ⟨hm, by omega⟩]; omega
  · rw [if_neg (by omega)]; omega
theorem sgn_bd (m : Int) (k : Nat) : -1 ≤ sgn m k ∧ sgn m k ≤ 1 := by unfold sgn; split <;> omega
theorem sgn_or (m : Int) (k : Nat) : sgn m k = 1 ∨ sgn m k = -1 := by unfold sgn; split <;> simp
set_option maxHeartbeats 400000 in
theorem readDec_num (m : Int) (w : World) (h0 : -999999 ≤ m) (h1 : m ≤ 999999) :
    Calls Tryd.prog 28 #[.string (numB m)] w fun e w' => e = .returned (.int .i64 m) ∧ w = w' := by
  have hz := num_size m h0 h1
  obtain ⟨hz1, hz2, _, _⟩ := hz
  have ALL := Lib.hid (num_all m)
  have AT := Lib.hid (num_at m)
  have ST := Lib.hid (num_step m)
  have BD := Lib.hid (fun k => num_bd m k h0 h1)
  obtain ⟨s, hs⟩ : ∃ s : ByteArray, s = numB m := ⟨_, rfl⟩
  rw [← hs] at ALL AT ST BD hz1 hz2 ⊢
  clear hs
  go_enter Tryd.func28, Tryd.ntmps28
  go_wp2
  go_step3
  go_wp2
  go_step3
  go_wp2
  go_loop [3, 4, 9] (fun n g i => ∃ k : Nat, k ≤ s.size ∧ i = .int .i64 k ∧ n = .int .i64 (dval (s.data.toList.take k)) ∧ g = .int .i64 (sgn m k)) (fun _ _ i => s.size - (intOf i).toNat)
  case atStart => exact ⟨0, Nat.zero_le _, rfl, rfl, by simp [sgn]⟩
  case round =>
    obtain ⟨k, hk, rfl, rfl, rfl⟩ := hrel
    obtain ⟨b0, b1⟩ := BD.out k
    obtain ⟨g0, g1⟩ := sgn_bd m k
    by_cases hlt : k < s.size
    · have at1 := AT.out k hlt
      have st1 := Lib.hid (ST.out k hlt)
      rcases at1 with ⟨q1, q2, q3⟩ | ⟨q1, q2, q3⟩
      · have SG := Lib.hid (sgn_succ_neg m k q2)
        have HS : Hid (dval (s.data.toList.take (k + 1)) = dval (s.data.toList.take k)) := by
          have := st1.out
          unfold dstep at this
          rw [if_pos q1] at this
          exact Lib.hid this
        have e1 : ((s[k].toNat : Int) == 45) = true := by simp [q1]
        have e2 : ((k : Int) == 0) = true := by simp [q3]
        clear q1 q3
        go_wp2
        go_round
        case rel => exact ⟨k + 1, by omega, by go_num, by rw [HS.out], by rw [SG.out]⟩
        case measure => simp [intOf]; omega
      · have SG := Lib.hid (sgn_same m k q3)
        have HS : Hid (dval (s.data.toList.take (k + 1)) = 10 * dval (s.data.toList.take k) + ((s[k].toNat : Int) - 48)) := by
          have := st1.out
          rw [dstep_dig _ _ ⟨q1, q2⟩] at this
          exact Lib.hid this
        have e1 : ((s[k].toNat : Int) == 45) = false := by simp; omega
        clear q3
        go_wp2
        go_round
        case rel => exact ⟨k + 1, by omega, by go_num, by rw [HS.out], by rw [SG.out]⟩
        case measure => simp [intOf]; omega
    · have hk2 : k = s.size := by omega
      have E := Lib.hid (sgn_end m k (by omega))
      have D : Hid (dval (s.data.toList.take k) = (m.natAbs : Int)) := by have := ALL.out; rw [← hk2] at this; exact Lib.hid this
      clear hk2
      have G := sgn_or m k
      obtain ⟨g, hg⟩ : ∃ g, g = sgn m k := ⟨_, rfl⟩
      rw [← hg] at E G g0 g1 ⊢
      clear hg
      rcases G with rfl | rfl
      · go_wp2
        go_ret
        exact ⟨by rw [← E.out, ← D.out]; simp, rfl⟩
      · go_wp2
        go_ret
        exact ⟨by rw [← E.out, ← D.out]; simp, rfl⟩
end Go.Proofs.YthpkabjgjgmnoaaDoor
