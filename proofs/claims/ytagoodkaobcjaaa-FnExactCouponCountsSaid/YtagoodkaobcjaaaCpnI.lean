/- Lists that show each face, in the program and in the model. -/
import Derived.Test.YtagoodkaobcjaaaDrgI
import Derived.Test.YtagoodkaobcjaaaInS
import Derived.Test.YtagoodkaobcjaaaRuiM
namespace Go.Proofs.Ytagoodkaobcjaaa
open Go.RowKit
set_option linter.unusedVariables false
def cpOk (n m : Int) : Bool := decide (1 ≤ n ∧ n ≤ 8) && decide (0 ≤ m ∧ m ≤ 8)
def cpV (n m : Int) : Int := if cpOk n m = true then cpN n.toNat m.toNat (n.toNat + 1) else 0
theorem pw_le {n m : Nat} (hn : n ≤ 8) (hm : m ≤ 8) : ∀ j, j ≤ m → n ^ j ≤ 4096000000000000 := fun j hj => by
  have := pw_bd8 n (by omega) j (by omega)
  omega
set_option maxRecDepth 100000 in
set_option maxHeartbeats 4000000 in
theorem cpC (n m : Int) (w : World) : Calls Try.prog 22 #[.int .i64 n, .int .i64 m] w (QR (.tuple #[.int .i64 (cpV n m), .bool (cpOk n m)]) w) := by
  have F := Lib.hid (fun w => fromI n 1 8 w)
  have G := Lib.hid (fun w => fromI m 0 8 w)
  by_cases h1 : 1 ≤ n ∧ n ≤ 8
  · rw [decide_eq_true h1] at F
    by_cases h2 : 0 ≤ m ∧ m ≤ 8
    · rw [decide_eq_true h2] at G
      have e1 : cpOk n m = true := by unfold cpOk; rw [decide_eq_true h1, decide_eq_true h2]; rfl
      have e2 : cpV n m = cpN n.toNat m.toNat (n.toNat + 1) := by unfold cpV; rw [if_pos e1]
      rw [e1, e2]
      obtain ⟨N, rfl⟩ : ∃ N : Nat, n = N := ⟨n.toNat, by omega⟩
      obtain ⟨M, rfl⟩ : ∃ M : Nat, m = M := ⟨m.toNat, by omega⟩
      rw [Int.toNat_natCast, Int.toNat_natCast]
      have hN : N ≤ 8 := by omega
      have hM : M ≤ 8 := by omega
      clear e1 e2 h1 h2
      have BD := Lib.hid (fun j (hj : j < 10) => cp_bd N (by omega) M (by omega) j hj)
      have BT := Lib.hid (fun j (hj : j < 9) => cpT_bd N (by omega) M (by omega) j hj)
      have CS := Lib.hid (fun j => show cpN N M (j + 1) = cpN N M j + cpT N M j from rfl)
      have CT := Lib.hid (fun j => show cpT N M j = sgN j * (chN N j : Nat) * ((N - j) ^ M : Nat) from rfl)
      have C0 := Lib.hid (show cpN N M 0 = 0 from rfl)
      have P1 := Lib.hid (fun j (hj : j ≤ N) w => powNeg j w (by omega))
      have P2 := Lib.hid (fun j (hj : j ≤ N) w => chooseC N j w (by omega) hj)
      have P3 := Lib.hid (fun j (hj : j ≤ N) w => powC (N - j) M w (by omega) (pw_le (by omega) hM) (by omega))
      have B1 := Lib.hid (fun j => sg_bd j)
      have B2 := Lib.hid (fun j (hj : j ≤ N) => ch_bd8 N (by omega) j (by omega))
      have B3 := Lib.hid (fun j (hj : j ≤ N) => pw_bd8 (N - j) (by omega) M (by omega))
      obtain ⟨C, hC⟩ : ∃ C : Nat → Int, C = cpN N M := ⟨_, rfl⟩
      obtain ⟨T, hT⟩ : ∃ T : Nat → Int, T = cpT N M := ⟨_, rfl⟩
      rw [← hC] at BD CS C0 ⊢
      rw [← hT] at BT CT CS
      clear hC hT
      go_enter Try.func22, Try.ntmps22
      go_wp2_with fail
      refine (F.out _).mono ?_
      rintro e w1 ⟨rfl, rfl⟩
      go_wp2_with fail
      refine (G.out _).mono ?_
      rintro e w1 ⟨rfl, rfl⟩
      go_wp2_with fail
      go_loopg [6, 18] (N + 1) (fun gg s t wr => ∃ i : Nat, i ≤ N + 1 ∧ N + 1 - i ≤ gg ∧ s = .int .i64 (C i) ∧ t = .int .i64 i ∧ w = wr)
      case atStart => exact ⟨0, Nat.zero_le _, by omega, by rw [C0.out], rfl, rfl⟩
      case round =>
        obtain ⟨i, hi, hgg, rfl, rfl, rfl⟩ := hrel
        by_cases hlt : i < N + 1
        · have hiN : i ≤ N := by omega
          have bd := BD.out i (by omega)
          have bt := BT.out i (by omega)
          have cs := CS.out i
          have ct := CT.out i
          have p1 := Lib.hid (P1.out i hiN)
          have p2 := Lib.hid (P2.out i hiN)
          have p3 := Lib.hid (P3.out i hiN)
          have b1 := B1.out i
          have b2 := B2.out i hiN
          have b3 := B3.out i hiN
          rw [show ((N - i : Nat) : Int) = (N : Int) - (i : Int) by omega] at p3
          obtain ⟨x, hx⟩ : ∃ x, x = sgN i := ⟨_, rfl⟩
          obtain ⟨y, hy⟩ : ∃ y : Int, y = (chN N i : Nat) := ⟨_, rfl⟩
          obtain ⟨z, hz⟩ : ∃ z : Int, z = ((N - i) ^ M : Nat) := ⟨_, rfl⟩
          have c2 : 0 ≤ y ∧ y ≤ 70 := by omega
          have c3 : 0 ≤ z ∧ z ≤ 16777216 := by omega
          rw [← hx] at p1 b1 ct
          rw [← hy] at p2 ct
          rw [← hz] at p3 ct
          clear hx hy hz b2 b3
          obtain ⟨c, hc⟩ : ∃ c, c = C i := ⟨_, rfl⟩
          rw [← hc] at bd cs ⊢
          rw [ct] at bt cs
          have m1 : -(1 * 70) ≤ x * y ∧ x * y ≤ 1 * 70 := mul_bd 1 70 (by omega) (by omega)
          obtain ⟨p, hp⟩ : ∃ p, p = x * y := ⟨_, rfl⟩
          rw [← hp] at m1 bt cs
          obtain ⟨q, hq⟩ : ∃ q, q = p * z := ⟨_, rfl⟩
          rw [← hq] at bt cs
          have W1 : IntKind.i64.wrap (x * y) = p := by rw [← hp]; exact IntWalk.i64_in _ (by omega)
          have W2 : IntKind.i64.wrap (p * z) = q := by rw [← hq]; exact IntWalk.i64_in _ (by omega)
          have ti : (i : Int) < (N : Int) + 1 := by omega
          have ti3 : (i : Int) ≤ (N : Int) := by omega
          have PH := Lib.hid cs
          clear cs ct hp hq hc
          go_wp2_with fail
          refine (p1.out _).mono ?_
          rintro e w1 ⟨rfl, rfl⟩
          go_wp2_with fail
          refine (p2.out _).mono ?_
          rintro e w1 ⟨rfl, rfl⟩
          go_wp2_with fail
          refine (p3.out _).mono ?_
          rintro e w1 ⟨rfl, rfl⟩
          go_wp2_with fail
          go_roundg (N + 1 - (i + 1))
          case rel => exact ⟨i + 1, by omega, by omega, by rw [PH.out], by go_num, rfl⟩
          case measure => omega
        · have hik : i = N + 1 := by omega
          have ti : ¬ (i : Int) < (N : Int) + 1 := by omega
          have ti2 : ¬ (i : Int) ≤ (N : Int) := by omega
          have FE := Lib.hid (show C i = C (N + 1) by rw [hik])
          clear hik
          go_wp2_with fail
          go_ret2
          exact ⟨by rw [FE.out]; rfl, rfl⟩
    · rw [decide_eq_false h2] at G
      have e1 : cpOk n m = false := by unfold cpOk; rw [decide_eq_false h2, Bool.and_false]
      have e2 : cpV n m = 0 := by unfold cpV; rw [if_neg (by rw [e1]; decide)]
      rw [e1, e2]
      clear e1 e2 h1 h2
      go_enter Try.func22, Try.ntmps22
      go_wp2_with fail
      refine (F.out _).mono ?_
      rintro e w1 ⟨rfl, rfl⟩
      go_wp2_with fail
      refine (G.out _).mono ?_
      rintro e w1 ⟨rfl, rfl⟩
      go_wp2_with fail
      go_ret2
      exact ⟨rfl, rfl⟩
  · rw [decide_eq_false h1] at F
    have e1 : cpOk n m = false := by unfold cpOk; rw [decide_eq_false h1, Bool.false_and]
    have e2 : cpV n m = 0 := by unfold cpV; rw [if_neg (by rw [e1]; decide)]
    rw [e1, e2]
    clear e1 e2 h1
    go_enter Try.func22, Try.ntmps22
    go_wp2_with fail
    refine (F.out _).mono ?_
    rintro e w1 ⟨rfl, rfl⟩
    go_wp2_with fail
    go_ret2
    exact ⟨rfl, rfl⟩

set_option maxRecDepth 100000 in
set_option maxHeartbeats 4000000 in
theorem cpS (n m : Int) (w : World) : Calls Try.prog 21 #[.int .i64 n, .int .i64 m] w (QR (.tuple #[.int .i64 (cpV n m), .bool (cpOk n m)]) w) := by
  have F := Lib.hid (fun w => inS n 1 8 w)
  have G := Lib.hid (fun w => inS m 0 8 w)
  by_cases h1 : 1 ≤ n ∧ n ≤ 8
  · rw [decide_eq_true h1] at F
    by_cases h2 : 0 ≤ m ∧ m ≤ 8
    · rw [decide_eq_true h2] at G
      have e1 : cpOk n m = true := by unfold cpOk; rw [decide_eq_true h1, decide_eq_true h2]; rfl
      have e2 : cpV n m = cpN n.toNat m.toNat (n.toNat + 1) := by unfold cpV; rw [if_pos e1]
      rw [e1, e2]
      obtain ⟨N, rfl⟩ : ∃ N : Nat, n = N := ⟨n.toNat, by omega⟩
      obtain ⟨M, rfl⟩ : ∃ M : Nat, m = M := ⟨m.toNat, by omega⟩
      rw [Int.toNat_natCast, Int.toNat_natCast]
      have hN : N ≤ 8 := by omega
      have hM : M ≤ 8 := by omega
      clear e1 e2 h1 h2
      have BD := Lib.hid (fun j (hj : j < 10) => cp_bd N (by omega) M (by omega) j hj)
      have BT := Lib.hid (fun j (hj : j < 9) => cpT_bd N (by omega) M (by omega) j hj)
      have CS := Lib.hid (fun j => show cpN N M (j + 1) = cpN N M j + cpT N M j from rfl)
      have CT := Lib.hid (fun j (hj : j ≤ N) => show cpT N M j = sgN j * (chN N (N - j) : Nat) * ((N - j) ^ M : Nat) from by rw [ch_flip N (by omega) j (by omega) hj]; rfl)
      have C0 := Lib.hid (show cpN N M 0 = 0 from rfl)
      have SS := Lib.hid sg_succ
      have S0 := Lib.hid sg_zero
      have P2 := Lib.hid (fun j (hj : j ≤ N) w => chooseS N (N - j) w (by omega) (by omega))
      have P3 := Lib.hid (fun j (hj : j ≤ N) w => powS (N - j) M w (by omega) (pw_le (by omega) hM) (by omega))
      have B1 := Lib.hid (fun j => sg_bd j)
      have B2 := Lib.hid (fun j (hj : j ≤ N) => ch_bd8 N (by omega) (N - j) (by omega))
      have B3 := Lib.hid (fun j (hj : j ≤ N) => pw_bd8 (N - j) (by omega) M (by omega))
      obtain ⟨C, hC⟩ : ∃ C : Nat → Int, C = cpN N M := ⟨_, rfl⟩
      obtain ⟨T, hT⟩ : ∃ T : Nat → Int, T = cpT N M := ⟨_, rfl⟩
      obtain ⟨G1, hG1⟩ : ∃ G1 : Nat → Int, G1 = sgN := ⟨_, rfl⟩
      rw [← hC] at BD CS C0 ⊢
      rw [← hT] at BT CT CS
      rw [← hG1] at CT SS S0 B1
      clear hC hT hG1
      go_enter Try.func21, Try.ntmps21
      go_wp2_with fail
      refine (F.out _).mono ?_
      rintro e w1 ⟨rfl, rfl⟩
      go_wp2_with fail
      refine (G.out _).mono ?_
      rintro e w1 ⟨rfl, rfl⟩
      go_wp2_with fail
      go_loopg [6, 7, 8] (N + 1) (fun gg s g t wr => ∃ i : Nat, i ≤ N + 1 ∧ N + 1 - i ≤ gg ∧ s = .int .i64 (C i) ∧ g = .int .i64 (G1 i) ∧ t = .int .i64 ((N : Int) - (i : Int)) ∧ w = wr)
      case atStart => exact ⟨0, Nat.zero_le _, by omega, by rw [C0.out], by rw [S0.out], by congr 1 <;> omega, rfl⟩
      case round =>
        obtain ⟨i, hi, hgg, rfl, rfl, rfl, rfl⟩ := hrel
        by_cases hlt : i < N + 1
        · have hiN : i ≤ N := by omega
          have bd := BD.out i (by omega)
          have bt := BT.out i (by omega)
          have cs := CS.out i
          have ct := CT.out i hiN
          have ss := SS.out i
          have p2 := Lib.hid (P2.out i hiN)
          have p3 := Lib.hid (P3.out i hiN)
          have b1 := B1.out i
          have b2 := B2.out i hiN
          have b3 := B3.out i hiN
          rw [show ((N - i : Nat) : Int) = (N : Int) - (i : Int) by omega] at p2 p3
          obtain ⟨x, hx⟩ : ∃ x, x = G1 i := ⟨_, rfl⟩
          obtain ⟨y, hy⟩ : ∃ y : Int, y = (chN N (N - i) : Nat) := ⟨_, rfl⟩
          obtain ⟨z, hz⟩ : ∃ z : Int, z = ((N - i) ^ M : Nat) := ⟨_, rfl⟩
          have c2 : 0 ≤ y ∧ y ≤ 70 := by omega
          have c3 : 0 ≤ z ∧ z ≤ 16777216 := by omega
          rw [← hx] at b1 ct ss ⊢
          rw [← hy] at p2 ct
          rw [← hz] at p3 ct
          clear hx hy hz b2 b3
          obtain ⟨c, hc⟩ : ∃ c, c = C i := ⟨_, rfl⟩
          rw [← hc] at bd cs ⊢
          rw [ct] at bt cs
          have m1 : -(1 * 70) ≤ x * y ∧ x * y ≤ 1 * 70 := mul_bd 1 70 (by omega) (by omega)
          obtain ⟨p, hp⟩ : ∃ p, p = x * y := ⟨_, rfl⟩
          rw [← hp] at m1 bt cs
          obtain ⟨q, hq⟩ : ∃ q, q = p * z := ⟨_, rfl⟩
          rw [← hq] at bt cs
          have W1 : IntKind.i64.wrap (x * y) = p := by rw [← hp]; exact IntWalk.i64_in _ (by omega)
          have W2 : IntKind.i64.wrap (p * z) = q := by rw [← hq]; exact IntWalk.i64_in _ (by omega)
          have W3 : IntKind.i64.wrap (-x) = -x := IntWalk.i64_in _ (by omega)
          have ti : 0 ≤ (N : Int) - (i : Int) := by omega
          have ti3 : (i : Int) ≤ (N : Int) := by omega
          have PH := Lib.hid cs
          have SH := Lib.hid (show -x = G1 (i + 1) by rw [ss]; omega)
          clear cs ct ss hp hq hc
          go_wp2_with fail
          refine (p2.out _).mono ?_
          rintro e w1 ⟨rfl, rfl⟩
          go_wp2_with fail
          refine (p3.out _).mono ?_
          rintro e w1 ⟨rfl, rfl⟩
          go_wp2_with fail
          go_roundg (N + 1 - (i + 1))
          case rel => exact ⟨i + 1, by omega, by omega, by rw [PH.out], by rw [SH.out], by congr 1 <;> omega, rfl⟩
          case measure => omega
        · have hik : i = N + 1 := by omega
          have ti : ¬ 0 ≤ (N : Int) - (i : Int) := by omega
          have ti2 : (N : Int) - (i : Int) < 0 := by omega
          have ti3 : ¬ (i : Int) ≤ (N : Int) := by omega
          have FE := Lib.hid (show C i = C (N + 1) by rw [hik])
          clear hik
          go_wp2_with fail
          go_ret2
          exact ⟨by rw [FE.out]; rfl, rfl⟩
    · rw [decide_eq_false h2] at G
      have e1 : cpOk n m = false := by unfold cpOk; rw [decide_eq_false h2, Bool.and_false]
      have e2 : cpV n m = 0 := by unfold cpV; rw [if_neg (by rw [e1]; decide)]
      rw [e1, e2]
      clear e1 e2 h1 h2
      go_enter Try.func21, Try.ntmps21
      go_wp2_with fail
      refine (F.out _).mono ?_
      rintro e w1 ⟨rfl, rfl⟩
      go_wp2_with fail
      refine (G.out _).mono ?_
      rintro e w1 ⟨rfl, rfl⟩
      go_wp2_with fail
      go_ret2
      exact ⟨rfl, rfl⟩
  · rw [decide_eq_false h1] at F
    have e1 : cpOk n m = false := by unfold cpOk; rw [decide_eq_false h1, Bool.false_and]
    have e2 : cpV n m = 0 := by unfold cpV; rw [if_neg (by rw [e1]; decide)]
    rw [e1, e2]
    clear e1 e2 h1
    go_enter Try.func21, Try.ntmps21
    go_wp2_with fail
    refine (F.out _).mono ?_
    rintro e w1 ⟨rfl, rfl⟩
    go_wp2_with fail
    go_ret2
    exact ⟨rfl, rfl⟩

end Go.Proofs.Ytagoodkaobcjaaa
