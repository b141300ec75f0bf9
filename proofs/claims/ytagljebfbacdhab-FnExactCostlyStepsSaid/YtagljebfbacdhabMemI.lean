/- Whether a number is in a row, by slices.Contains. -/
import Derived.Test.YtagljebfbacdhabProcI
import Derived.Test.YtagljebfbacdhabEvP
namespace Go.Proofs.Ytagljebfbacdhab
open Go.RowKit
set_option linter.unusedVariables false
theorem mem_hit {l : List Int} {k : Nat} {z : Int} (hk : k < l.length) (h : l.getD k 0 = z) : inL l z = true := by
  unfold inL
  rw [decide_eq_true_iff, ← h]; exact getD_mem hk
theorem mem_miss {l : List Int} {z : Int} (h : ∀ j, j < l.length → l.getD j 0 ≠ z) : inL l z = false := by
  unfold inL
  rw [decide_eq_false_iff_not]
  intro hm
  obtain ⟨i, hi, e⟩ := mem_getD hm
  exact h i hi e
set_option maxHeartbeats 2000000 in
theorem idxI (zs : List Int) (v : Value) (z : Int) (w : World) (hn : zs.length ≤ 1048576) (h : IntsV w w.heap.size v zs) :
    Calls Try.prog 205 #[v, .int .i64 z] w fun e w' => ∃ k : Int, e = .returned (.int .i64 k) ∧ -1 ≤ k ∧ k ≤ 1048576 ∧ decide (0 ≤ k) = inL zs z ∧ w = w' := by
  obtain ⟨q, cq, rfl, lq, mq, zq, iq⟩ := h
  have E1 := Lib.hid iq
  clear iq zq mq
  go_enter Try.func205, Try.ntmps205
  go_wp2
  go_loop [8] (fun i => ∃ k : Nat, k ≤ zs.length ∧ i = .int .i64 k ∧ Hid (∀ j, j < k → zs.getD j 0 ≠ z)) (fun i => zs.length - (intOf i).toNat)
  case atStart => exact ⟨0, Nat.zero_le _, rfl, Lib.hid (fun j hj => by omega)⟩
  case round =>
    obtain ⟨k, hk, rfl, HA⟩ := hrel
    by_cases hlt : k < zs.length
    · obtain ⟨b, off, rfl, hb, hc⟩ := E1.out.get hlt
      have i0 : (0 : Int) ≤ (k : Int) := by omega
      have i1 : (k : Int) < (zs.length : Int) := by omega
      have HIT := Lib.hid (mem_hit (z := z) hlt)
      have NX : Hid (zs.getD k 0 ≠ z → ∀ j, j < k + 1 → zs.getD j 0 ≠ z) := Lib.hid (fun h j hj => by
        rcases Nat.lt_or_ge j k with h' | h'
        · exact HA.out j h'
        · obtain rfl : j = k := by omega
          exact h)
      obtain ⟨y, hy⟩ : ∃ y, y = zs.getD k 0 := ⟨_, rfl⟩
      rw [← hy] at hc HIT NX
      clear hy HA
      by_cases h1 : y = z
      · have N2 := Lib.hid (HIT.out h1)
        have hb1 : (z == y) = true := by rw [beq_iff_eq]; exact h1.symm
        clear HIT NX
        go_wp2
        go_ret
        exact ⟨_, rfl, by omega, by omega, by rw [N2.out, decide_eq_true_iff]; omega, rfl⟩
      · have N2 := Lib.hid (NX.out h1)
        have hb1 : (z == y) = false := by rw [beq_eq_false_iff_ne]; exact fun e => h1 e.symm
        clear HIT NX
        go_wp2
        go_round
        case rel => exact ⟨k + 1, by omega, by go_num, N2⟩
        case measure => simp [intOf]; omega
    · have R := Lib.hid (mem_miss (l := zs) (z := z) (fun j hj => HA.out j (by omega)))
      clear HA
      go_wp2
      go_ret
      exact ⟨_, rfl, by omega, by omega, by rw [R.out]; rfl, rfl⟩
set_option maxHeartbeats 1000000 in
theorem memI (zs : List Int) (v : Value) (z : Int) (w : World) (hn : zs.length ≤ 1048576) (h : IntsV w w.heap.size v zs) :
    Calls Try.prog 183 #[v, .int .i64 z] w (Gives (.bool (inL zs z)) w) := by
  have C := Lib.hid (idxI zs v z w hn h)
  obtain ⟨q, cq, rfl, _⟩ := h
  go_enter Try.func183, Try.ntmps183
  go_wp2_with fail
  refine C.out.mono ?_
  rintro e w1 ⟨k, rfl, h1, h2, h3, rfl⟩
  have H3 := Lib.hid h3
  clear h3
  go_wp2_with fail
  go_ret
  exact ⟨ret_b H3.out.symm, Below.refl _ _⟩
end Go.Proofs.Ytagljebfbacdhab
