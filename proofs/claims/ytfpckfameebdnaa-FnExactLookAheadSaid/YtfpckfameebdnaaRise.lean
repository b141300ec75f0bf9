/- Events in the model. -/
import Derived.Test.YtfpckfameebdnaaEvP
import Derived.Test.YtfpckfameebdnaaLawT
import Derived.Test.YtfpckfameebdnaaSumS
namespace Go.Proofs.Ytfpckfameebdnaa
open Go.RowKit
set_option linter.unusedVariables false
theorem inL_no {l : List Int} {k : Nat} {z : Int} (h : k < l.length) (hn : inL (l.take k) z = false) (hz : l.getD k 0 ≠ z) : inL (l.take (k + 1)) z = false := by
  rw [inL_take h, if_neg (fun e => hz e.symm)]; exact hn
theorem inL_yes {l : List Int} {k : Nat} {z : Int} (h : k < l.length) (hz : l.getD k 0 = z) : inL l z = true := by
  unfold inL
  rw [decide_eq_true_iff, ← hz, List.getD_eq_getElem?_getD, List.getElem?_eq_getElem h]
  exact List.getElem_mem h
set_option maxHeartbeats 1000000 in
theorem hasS (zs : List Int) (z : Int) (v : Value) (B : Nat) (w : World) (hl : zs.length ≤ 1048576) (h : IntsV w B v zs) :
    Calls Try.prog 184 #[v, .int .i64 z] w fun e w' => e = .returned (.bool (inL zs z)) ∧ ∃ n, w' = w.drewN n := by
  obtain ⟨q, cq, rfl, lq, mq, zq, iq⟩ := h
  have E1 := Lib.hid iq
  clear iq zq mq
  go_enter Try.func184, Try.ntmps184
  go_wp2
  go_loopw [5] (fun i wr => ∃ k : Nat, k ≤ zs.length ∧ i = .int .i64 k ∧ Hid (inL (zs.take k) z = false) ∧ ∃ n, wr = w.drewN n) (fun i _ => zs.length - (intOf i).toNat)
  case atStart => exact ⟨0, Nat.zero_le _, rfl, Lib.hid (by simp [inL]), 0, rfl⟩
  case round =>
    obtain ⟨k, hk, rfl, HN, n, rfl⟩ := hrel
    by_cases hlt : k < zs.length
    · obtain ⟨b, off, rfl, hb, hc⟩ := E1.out.get hlt
      have i0 : (0 : Int) ≤ (k : Int) := by omega
      have i1 : (k : Int) < (zs.length : Int) := by omega
      have Y := Lib.hid (inL_yes (z := z) hlt)
      have N := Lib.hid (inL_no (z := z) hlt HN.out)
      obtain ⟨x, hx⟩ : ∃ x, x = zs.getD k 0 := ⟨_, rfl⟩
      rw [← hx] at hc Y N
      clear hx HN
      by_cases hxz : x = z
      · have R := Lib.hid (Y.out hxz)
        have hb1 : (x == z) = true := by simpa using hxz
        clear Y N hxz
        go_wp2
        go_ret
        exact ⟨ret_b R.out, n, rfl⟩
      · have R := Lib.hid (N.out hxz)
        have hb1 : (x == z) = false := by simpa using hxz
        clear Y N hxz
        go_wp2
        go_roundw
        case rel => exact ⟨k + 1, by omega, by go_num, R, n, rfl⟩
        case measure => simp [intOf]; omega
    · have R : Hid (inL zs z = false) := Lib.hid (by have := HN.out; rwa [show k = zs.length by omega, List.take_of_length_le (Nat.le_refl _)] at this)
      clear HN
      go_wp2
      go_ret
      exact ⟨ret_b R.out, n, rfl⟩
/-- Numbers that rise, of nodes. -/
def riAt (n : Nat) (evs : List Int) (i : Nat) : Bool := decide (0 ≤ evs.getD i 0 ∧ evs.getD i 0 ≤ (n : Int) - 1) && (decide (i = 0) || decide (evs.getD (i - 1) 0 < evs.getD i 0))
def riB (n : Nat) (evs : List Int) : Bool := (List.range evs.length).all (riAt n evs)
theorem riB_false {n : Nat} {evs : List Int} {i : Nat} (hi : i < evs.length) (h : riAt n evs i = false) : riB n evs = false := by
  cases hb : riB n evs
  · rfl
  · unfold riB at hb
    rw [List.all_eq_true] at hb
    rw [hb i (List.mem_range.2 hi)] at h
    cases h
def poAt (ws evs : List Int) (i : Nat) : Bool := decide (0 < ws.getD (evs.getD i 0).toNat 0)
theorem evAt_parts (ps ws evs : List Int) (i : Nat) : evAt ps ws evs i = (riAt ps.length evs i && poAt ws evs i) := by
  unfold evAt riAt poAt
  have : decide (0 ≤ evs.getD i 0 ∧ evs.getD i 0 < (ps.length : Int)) = decide (0 ≤ evs.getD i 0 ∧ evs.getD i 0 ≤ (ps.length : Int) - 1) := by
    congr 1; apply propext; constructor <;> rintro ⟨a, b⟩ <;> exact ⟨a, by omega⟩
  rw [this, Bool.and_assoc, Bool.and_comm (decide (0 < _))]
set_option maxRecDepth 100000 in
set_option maxHeartbeats 4000000 in
theorem riseS (evs : List Int) (n : Nat) (v : Value) (B : Nat) (w : World) (hl : evs.length ≤ 1048576) (hn : n ≤ 1048576) (h : IntsV w B v evs) :
    Calls Try.prog 182 #[v, .int .i64 0, .int .i64 ((n : Int) - 1)] w fun e w' => e = .returned (.bool (riB n evs)) ∧ ∃ m, w' = w.drewN m := by
  obtain ⟨q, cq, rfl, lq, mq, zq, iq⟩ := h
  have E1 := Lib.hid iq
  clear iq zq mq
  go_enter Try.func182, Try.ntmps182
  go_wp2
  go_loopw [7] (fun i wr => ∃ k : Nat, k ≤ evs.length ∧ i = .int .i64 k ∧ Hid (∀ j, j < k → riAt n evs j = true) ∧ ∃ m, wr = w.drewN m) (fun i _ => evs.length - (intOf i).toNat)
  case atStart => exact ⟨0, Nat.zero_le _, rfl, Lib.hid (fun j hj => by omega), 0, rfl⟩
  case round =>
    obtain ⟨k, hk, rfl, HA, m, rfl⟩ := hrel
    by_cases hlt : k < evs.length
    · obtain ⟨b, off, rfl, hb, hc⟩ := E1.out.get hlt
      have i0 : (0 : Int) ≤ (k : Int) := by omega
      have i1 : (k : Int) < (evs.length : Int) := by omega
      have FA := Lib.hid (riB_false (n := n) hlt)
      have NX : Hid (riAt n evs k = true → ∀ j, j < k + 1 → riAt n evs j = true) := Lib.hid (fun h j hj => by
        rcases Nat.lt_or_ge j k with h' | h'
        · exact HA.out j h'
        · obtain rfl : j = k := by omega
          exact h)
      have DEF : Hid (riAt n evs k = (decide (0 ≤ evs.getD k 0 ∧ evs.getD k 0 ≤ (n : Int) - 1) && (decide (k = 0) || decide (evs.getD (k - 1) 0 < evs.getD k 0)))) := Lib.hid rfl
      obtain ⟨z, hz⟩ : ∃ z, z = evs.getD k 0 := ⟨_, rfl⟩
      rw [← hz] at hc DEF
      clear hz HA
      by_cases hin : 0 ≤ z ∧ z ≤ (n : Int) - 1
      · have I := Lib.hid (fun w => inS_true z 0 ((n : Int) - 1) w hin)
        rcases Nat.eq_zero_or_pos k with hk0 | hk0
        · subst hk0
          have R := Lib.hid (NX.out (by rw [DEF.out, decide_eq_true hin]; rfl))
          clear NX FA DEF hin
          rw [Nat.add_zero] at hc
          go_wp2_with fail
          go_quiet ((go_at_call 85; first | exact quiet_left (I.out _) | exact quiet_add_left (I.out _)))
          go_wp2_with fail
          go_roundw
          case rel => exact ⟨1, by omega, by go_num, R, _, rfl⟩
          case measure => simp [intOf]; omega
        · obtain ⟨j, hj⟩ : ∃ j, j + 1 = k := ⟨k - 1, by omega⟩
          obtain ⟨b', off', he, hb', hc'⟩ := E1.out.get (i := j) (by omega)
          obtain ⟨rfl, rfl⟩ : b = b' ∧ off = off' := by injection he with he; injection he with h1 h2; exact ⟨h1, h2⟩
          have hkj : k - 1 = j := by omega
          have j0 : (k : Int) > 0 := by omega
          have j1 : (k : Int) - 1 = (j : Int) := by omega
          have j2 : (j : Int) < (evs.length : Int) := by omega
          have j3 : (0 : Int) ≤ (j : Int) := by omega
          have hk0' : ¬ k = 0 := by omega
          rw [hkj] at DEF
          obtain ⟨y, hy⟩ : ∃ y, y = evs.getD j 0 := ⟨_, rfl⟩
          rw [← hy] at hc' DEF
          clear he hy hj hkj
          by_cases hyz : y < z
          · have R := Lib.hid (NX.out (by rw [DEF.out, decide_eq_true hin, decide_eq_true hyz, Bool.or_true]; rfl))
            have nyz : ¬ (z ≤ y) := by omega
            clear NX FA DEF hin hk0'
            go_wp2_with fail
            go_quiet ((go_at_call 85; first | exact quiet_left (I.out _) | exact quiet_add_left (I.out _)))
            go_wp2_with fail
            clear j1
            go_roundw
            case rel => exact ⟨k + 1, by omega, by go_num, R, _, rfl⟩
            case measure => simp [intOf]; omega
          · have R := Lib.hid (FA.out (by rw [DEF.out, decide_eq_true hin, decide_eq_false hyz, decide_eq_false hk0']; rfl))
            have nyz : z ≤ y := by omega
            clear NX FA DEF hin hk0'
            go_wp2_with fail
            go_quiet ((go_at_call 85; first | exact quiet_left (I.out _) | exact quiet_add_left (I.out _)))
            go_wp2_with fail
            go_ret
            exact ⟨ret_b R.out, _, World.drewN_drewN _ _ _⟩
      · have I := Lib.hid (fun w => inS_false z 0 ((n : Int) - 1) w hin)
        have R := Lib.hid (FA.out (by rw [DEF.out, decide_eq_false hin]; rfl))
        clear NX FA DEF hin
        go_wp2_with fail
        go_quiet ((go_at_call 85; first | exact quiet_left (I.out _) | exact quiet_add_left (I.out _)))
        go_wp2_with fail
        go_ret
        exact ⟨ret_b R.out, _, World.drewN_drewN _ _ _⟩
    · have R : Hid (riB n evs = true) := Lib.hid (by unfold riB; rw [List.all_eq_true]; exact fun i hi => HA.out i (by have := List.mem_range.1 hi; omega))
      clear HA
      go_wp2
      go_ret
      exact ⟨ret_b R.out, m, rfl⟩
end Go.Proofs.Ytfpckfameebdnaa
