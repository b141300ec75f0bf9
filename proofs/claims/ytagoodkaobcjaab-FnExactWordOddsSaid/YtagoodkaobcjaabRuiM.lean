/- The chance and the mean of ruin, in the model. -/
import Derived.Test.YtagoodkaobcjaabRuiI
import Derived.Test.YtagoodkaobcjaabFracK
namespace Go.Proofs.Ytagoodkaobcjaab
open Go.RowKit
set_option linter.unusedVariables false

set_option maxRecDepth 100000 in
set_option maxHeartbeats 2000000 in
theorem powS (b k : Nat) (w : World) (hb : b ≤ 20) (h : ∀ j, j ≤ k → b ^ j ≤ 4096000000000000) (hk : k ≤ 1000) : Calls Try.prog 105 #[.int .i64 b, .int .i64 k] w (QR (.int .i64 (b ^ k : Nat)) w) := by
  have PB := Lib.hid h
  have PS := Lib.hid (fun i => show b ^ (i + 1) = b ^ i * b from Nat.pow_succ ..)
  have P0 := Lib.hid (show b ^ 0 = 1 from Nat.pow_zero _)
  clear h
  obtain ⟨F, hF⟩ : ∃ F : Nat → Nat, F = fun i => b ^ i := ⟨_, rfl⟩
  have FD : ∀ i, b ^ i = F i := fun i => by rw [hF]
  simp only [FD] at PB PS P0 ⊢
  clear hF FD
  go_enter Try.func105, Try.ntmps105
  go_wp2_with fail
  go_loopg [5, 6] k (fun gg s t wr => ∃ i : Nat, i ≤ k ∧ k - i ≤ gg ∧ s = .int .i64 (F i : Nat) ∧ t = .int .i64 i ∧ w = wr)
  case atStart => exact ⟨0, Nat.zero_le _, by omega, by rw [P0.out]; rfl, rfl, rfl⟩
  case round =>
    obtain ⟨i, hi, hgg, rfl, rfl, rfl⟩ := hrel
    by_cases hlt : i < k
    · have pb := PB.out i hi
      have pb1 := PB.out (i + 1) (by omega)
      have ps := PS.out i
      have WR : IntKind.i64.wrap ((F i : Int) * (b : Int)) = (F i : Int) * (b : Int) := IntWalk.i64_in _ (by rw [← Int.natCast_mul, ← ps]; omega)
      have PE := Lib.hid (show ((F i : Int) * (b : Int)) = (F (i + 1) : Nat) by rw [ps, Int.natCast_mul])
      clear ps pb1
      go_wp2_with fail
      go_roundg (k - (i + 1))
      case rel => exact ⟨i + 1, by omega, by omega, by rw [← PE.out], by go_num, rfl⟩
      case measure => omega
    · have hik : i = k := by omega
      subst hik
      go_wp2_with fail
      go_ret
      exact ⟨rfl, rfl⟩

set_option maxRecDepth 100000 in
set_option maxHeartbeats 2000000 in
theorem oddsS (a b : Int) (w : World) : Calls Try.prog 129 #[.int .i64 a, .int .i64 b] w (QR (.bool (decide ((1 ≤ a ∧ a ≤ 20) ∧ (1 ≤ b ∧ b ≤ 20)))) w) := by
  have F := Lib.hid (fun w => inS a 1 20 w)
  have G := Lib.hid (fun w => inS b 1 20 w)
  by_cases h1 : 1 ≤ a ∧ a ≤ 20
  · rw [decide_eq_true h1] at F
    rw [show decide ((1 ≤ a ∧ a ≤ 20) ∧ (1 ≤ b ∧ b ≤ 20)) = decide (1 ≤ b ∧ b ≤ 20) by simp [h1]]
    generalize decide (1 ≤ b ∧ b ≤ 20) = c at *
    clear h1
    go_enter Try.func129, Try.ntmps129
    go_wp2_with fail
    refine (F.out _).mono ?_
    rintro e w1 ⟨rfl, rfl⟩
    go_wp2_with fail
    refine (G.out _).mono ?_
    rintro e w2 ⟨rfl, rfl⟩
    go_wp2_with fail
    go_ret
    exact ⟨rfl, rfl⟩
  · rw [decide_eq_false h1] at F
    rw [decide_eq_false (fun h => h1 h.1)]
    clear h1
    go_enter Try.func129, Try.ntmps129
    go_wp2_with fail
    refine (F.out _).mono ?_
    rintro e w1 ⟨rfl, rfl⟩
    go_wp2_with fail
    go_ret
    exact ⟨rfl, rfl⟩

set_option maxRecDepth 100000 in
set_option maxHeartbeats 2000000 in
theorem gameS (a b i n : Int) (w : World) : Calls Try.prog 106 #[.int .i64 a, .int .i64 b, .int .i64 i, .int .i64 n] w (QR (.bool (ruinOk a b i n)) w) := by
  have F := Lib.hid (fun w => oddsS a b w)
  have G := Lib.hid (fun w => inS n 1 12 w)
  have K := Lib.hid (fun w => inS i 0 n w)
  have RR : ruinOk a b i n = (decide ((1 ≤ a ∧ a ≤ 20) ∧ (1 ≤ b ∧ b ≤ 20)) && (decide (1 ≤ n ∧ n ≤ 12) && decide (0 ≤ i ∧ i ≤ n))) := by
    unfold ruinOk gamOk
    rw [Bool.eq_iff_iff]
    simp only [Bool.and_eq_true, decide_eq_true_eq]
    constructor
    · rintro ⟨⟨p, q, r⟩, s⟩; exact ⟨⟨p, q⟩, r, s⟩
    · rintro ⟨⟨p, q⟩, r, s⟩; exact ⟨⟨p, q, r⟩, s⟩
  rw [RR]
  generalize decide ((1 ≤ a ∧ a ≤ 20) ∧ (1 ≤ b ∧ b ≤ 20)) = c1 at *
  generalize decide (1 ≤ n ∧ n ≤ 12) = c2 at *
  generalize decide (0 ≤ i ∧ i ≤ n) = c3 at *
  clear RR
  cases c1
  · go_enter Try.func106, Try.ntmps106
    go_wp2_with fail
    refine (F.out _).mono ?_
    rintro e w1 ⟨rfl, rfl⟩
    go_wp2_with fail
    go_ret
    exact ⟨rfl, rfl⟩
  · cases c2
    · go_enter Try.func106, Try.ntmps106
      go_wp2_with fail
      refine (F.out _).mono ?_
      rintro e w1 ⟨rfl, rfl⟩
      go_wp2_with fail
      refine (G.out _).mono ?_
      rintro e w2 ⟨rfl, rfl⟩
      go_wp2_with fail
      go_ret
      exact ⟨rfl, rfl⟩
    · go_enter Try.func106, Try.ntmps106
      go_wp2_with fail
      refine (F.out _).mono ?_
      rintro e w1 ⟨rfl, rfl⟩
      go_wp2_with fail
      refine (G.out _).mono ?_
      rintro e w2 ⟨rfl, rfl⟩
      go_wp2_with fail
      refine (K.out _).mono ?_
      rintro e w3 ⟨rfl, rfl⟩
      go_wp2_with fail
      go_ret
      exact ⟨rfl, rfl⟩

theorem kept_rc (a b i n : Nat) (w : World) (ha : 1 ≤ a) (hb : 1 ≤ b) (hn : 1 ≤ n) : Calls Try.prog 79 #[.agg #[.int .i64 (rcN a b i n), .int .i64 (rcD a b i n)]] w (Gives (keptV (rcN a b i n) (rcD a b i n)) w) := by
  unfold rcN rcD
  split
  · exact keptS_cut w (by omega)
  · have := ts_pos ha hb hn
    exact keptS_cut w (by omega)

end Go.Proofs.Ytagoodkaobcjaab
