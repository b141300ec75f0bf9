/- What rows of steps are worth, in the model. -/
import Derived.Test.YtmidlabgmmejbabRwJ
import Derived.Test.YtmidlabgmmejbabFracC
import Derived.Test.YtmidlabgmmejbabFracK
import Derived.Test.YtmidlabgmmejbabInS
namespace Go.Proofs.Ytmidlabgmmejbab
open Go.RowKit
set_option linter.unusedVariables false
theorem rowS (n u d : Int) (w : World) : Calls Try.prog 104 #[.int .i64 n, .int .i64 u, .int .i64 d] w (QR (.bool (rowOk n u d)) w) := by
  have F := Lib.hid (fun w => inS n 0 4 w)
  have G := Lib.hid (fun w => inS u 1 9 w)
  have K := Lib.hid (fun w => inS d 1 9 w)
  have D : Hid (rowOk n u d = (decide (0 ≤ n ∧ n ≤ 4) && (decide (1 ≤ u ∧ u ≤ 9) && decide (1 ≤ d ∧ d ≤ 9)))) := Lib.hid (by unfold rowOk; rw [Bool.eq_iff_iff]; simp)
  generalize decide (0 ≤ n ∧ n ≤ 4) = a at *
  generalize decide (1 ≤ u ∧ u ≤ 9) = b at *
  generalize decide (1 ≤ d ∧ d ≤ 9) = c at *
  cases a
  · go_enter Try.func104, Try.ntmps104
    go_wp2_with fail
    refine (F.out _).mono ?_
    rintro e w1 ⟨rfl, rfl⟩
    go_wp2_with fail
    go_ret
    exact ⟨ret_b D.out, rfl⟩
  · cases b
    · go_enter Try.func104, Try.ntmps104
      go_wp2_with fail
      refine (F.out _).mono ?_
      rintro e w1 ⟨rfl, rfl⟩
      go_wp2_with fail
      refine (G.out _).mono ?_
      rintro e w2 ⟨rfl, rfl⟩
      go_wp2_with fail
      go_ret
      exact ⟨ret_b D.out, rfl⟩
    · go_enter Try.func104, Try.ntmps104
      go_wp2_with fail
      refine (F.out _).mono ?_
      rintro e w1 ⟨rfl, rfl⟩
      go_wp2_with fail
      refine (G.out _).mono ?_
      rintro e w2 ⟨rfl, rfl⟩
      go_wp2_with fail
      refine (K.out _).mono ?_
      rintro e w3 ⟨rfl, rfl⟩
      go_wp2_with fail
      go_ret
      exact ⟨ret_b (by rw [D.out]; rfl), rfl⟩
set_option maxHeartbeats 2000000 in
theorem valsS (L : List Int) (n : Int) (v : Value) (w : World) (hn : L.length ≤ 1048576) (h : IntsV w w.heap.size v L) :
    Calls Try.prog 105 #[v, .int .i64 n] w (Gives (.bool (decide ((L.length : Int) = n) && withinB 999 L)) w) := by
  obtain ⟨q1, d1, rfl, _, _, _, j1⟩ := h
  have Q1 := Lib.hid j1
  clear j1
  have D : Hid ((decide ((L.length : Int) = n) && withinB 999 L) = (((L.length : Int) == n) && withinB 999 L)) := Lib.hid (by
    congr 1)
  go_enter Try.func105, Try.ntmps105
  go_wp2_with fail
  go_loopw [5] (fun i wr => ∃ k : Nat, k ≤ L.length ∧ i = .int .i64 k ∧ Hid (∀ j, j < k → -999 ≤ L.getD j 0 ∧ L.getD j 0 ≤ 999) ∧ ∃ n, wr = w.drewN n) (fun i _ => L.length - (intOf i).toNat)
  case atStart => exact ⟨0, Nat.zero_le _, rfl, Lib.hid (fun j hj => by omega), 0, rfl⟩
  case round =>
    obtain ⟨k, hk, rfl, HA, m, rfl⟩ := hrel
    by_cases hlt : k < L.length
    · obtain ⟨b, off, rfl, hb, hc⟩ := Q1.out.get hlt
      have i0 : (0 : Int) ≤ (k : Int) := by omega
      have i1 : (k : Int) < (L.length : Int) := by omega
      have NO := Lib.hid (within_no (m := 999) hlt)
      have NX : Hid (-999 ≤ L.getD k 0 ∧ L.getD k 0 ≤ 999 → ∀ j, j < k + 1 → -999 ≤ L.getD j 0 ∧ L.getD j 0 ≤ 999) := Lib.hid (fun h j hj => by
        rcases Nat.lt_or_ge j k with h' | h'
        · exact HA.out j h'
        · obtain rfl : j = k := by omega
          exact h)
      obtain ⟨z, hz⟩ : ∃ z, z = L.getD k 0 := ⟨_, rfl⟩
      rw [← hz] at hc NO NX
      clear hz HA
      by_cases hin : -999 ≤ z ∧ z ≤ 999
      · have I := Lib.hid (fun w => inS_true z (-999) 999 w hin)
        have N2 := Lib.hid (NX.out hin)
        clear NX NO hin
        go_wp2_with fail
        refine (I.out _).mono ?_
        rintro e w1 ⟨rfl, rfl⟩
        go_wp2_with fail
        go_roundw
        case rel => exact ⟨k + 1, by omega, by go_num, N2, _, rfl⟩
        case measure => simp [intOf]; omega
      · have I := Lib.hid (fun w => inS_false z (-999) 999 w hin)
        have N2 := Lib.hid (NO.out hin)
        clear NX NO hin
        go_wp2_with fail
        refine (I.out _).mono ?_
        rintro e w1 ⟨rfl, rfl⟩
        go_wp2_with fail
        go_ret
        exact ⟨ret_b (by rw [N2.out, Bool.and_false]), below_drewN (Below.refl _ _) m⟩
    · have WI : Hid (withinB 999 L = true) := Lib.hid (within_yes (fun i hi => HA.out i (by omega)))
      clear HA
      go_wp2_with fail
      go_ret
      exact ⟨ret_b (by rw [D.out, WI.out, Bool.and_true]), below_drewN (Below.refl _ _) m⟩
set_option maxRecDepth 100000 in
set_option maxHeartbeats 2000000 in
theorem pow6S (b k : Nat) (w : World) (hb : b ≤ 18) (hk : k ≤ 4) : Calls Try.prog 107 #[.int .i64 b, .int .i64 k] w (QR (.int .i64 (b ^ k : Nat)) w) := by
  have PB := Lib.hid (fun j (hj : j ≤ k) => pow18 (b := b) (k := j) hb (by omega))
  have PS := Lib.hid (fun i => show b ^ (i + 1) = b ^ i * b from Nat.pow_succ ..)
  have P0 := Lib.hid (show b ^ 0 = 1 from Nat.pow_zero _)
  obtain ⟨F, hF⟩ : ∃ F : Nat → Nat, F = fun i => b ^ i := ⟨_, rfl⟩
  have FD : ∀ i, b ^ i = F i := fun i => by rw [hF]
  simp only [FD] at PB PS P0 ⊢
  clear hF FD
  go_enter Try.func107, Try.ntmps107
  go_wp2_with fail
  go_loopg [5, 6] k (fun gg s t wr => ∃ i : Nat, i ≤ k ∧ k - i ≤ gg ∧ s = .int .i64 (F i : Nat) ∧ t = .int .i64 i ∧ w = wr)
  case atStart => exact ⟨0, Nat.zero_le _, by omega, by rw [P0.out]; rfl, rfl, rfl⟩
  case round =>
    obtain ⟨i, hi, hgg, rfl, rfl, rfl⟩ := hrel
    by_cases hlt : i < k
    · have pb := PB.out i hi
      have pb1 := PB.out (i + 1) (by omega)
      have ps := PS.out i
      have WR : IntKind.i64.wrap ((F i : Int) * (b : Int)) = (F i : Int) * (b : Int) := IntWalk.i64_in _ (by rw [← Int.natCast_mul, ← ps]; omega)
      have PE := Lib.hid (show ((F i : Int) * (b : Int)) = (F (i + 1) : Nat) by rw [ps, Int.natCast_mul])
      clear ps pb1
      go_wp2_with fail
      go_roundg (k - (i + 1))
      case rel => exact ⟨i + 1, by omega, by omega, by rw [← PE.out], by go_num, rfl⟩
      case measure => omega
    · have hik : i = k := by omega
      subst hik
      go_wp2_with fail
      go_ret
      exact ⟨rfl, rfl⟩
end Go.Proofs.Ytmidlabgmmejbab
