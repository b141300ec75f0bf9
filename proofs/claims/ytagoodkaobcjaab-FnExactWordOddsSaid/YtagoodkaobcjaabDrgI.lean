/- Powers of -1 and orders without a match, in the program and in the model. -/
import Derived.Test.YtagoodkaobcjaabPowI
import Derived.Test.YtagoodkaobcjaabCrdP
namespace Go.Proofs.Ytagoodkaobcjaab
open Go.RowKit
set_option linter.unusedVariables false
def okC (l n : Int) : Bool := decide (l ≤ n ∧ n ≤ 12)
set_option maxRecDepth 100000 in
set_option maxHeartbeats 2000000 in
theorem powNeg (k : Nat) (w : World) (hk : k ≤ 1000) : Calls Try.prog 72 #[.int .i64 (-1), .int .i64 k] w (QR (.int .i64 (sgN k)) w) := by
  have PB := Lib.hid sg_bd
  have PS := Lib.hid sg_succ
  have P0 := Lib.hid sg_zero
  obtain ⟨F, hF⟩ : ∃ F : Nat → Int, F = sgN := ⟨_, rfl⟩
  rw [← hF] at PB PS P0 ⊢
  clear hF
  go_enter Try.func72, Try.ntmps72
  go_wp2_with fail
  go_loopg [5, 7] k (fun gg s t wr => ∃ i : Nat, i ≤ k ∧ k - i ≤ gg ∧ s = .int .i64 (F i) ∧ t = .int .i64 i ∧ w = wr)
  case atStart => exact ⟨0, Nat.zero_le _, by omega, by rw [P0.out], rfl, rfl⟩
  case round =>
    obtain ⟨i, hi, hgg, rfl, rfl, rfl⟩ := hrel
    by_cases hlt : i < k
    · have pb := PB.out i
      have PE := PS.out i
      obtain ⟨x, hx⟩ : ∃ x, x = F i := ⟨_, rfl⟩
      rw [← hx] at pb PE
      have HX := Lib.hid hx
      have WR : IntKind.i64.wrap (x * -1) = x * -1 := IntWalk.i64_in _ (by omega)
      have WS : IntKind.i64.wrap (-x) = -x := IntWalk.i64_in _ (by omega)
      have PH := Lib.hid PE
      rw [← hx]
      clear PE hx
      go_wp2_with fail
      go_roundg (k - (i + 1))
      case rel => exact ⟨i + 1, by omega, by omega, by rw [PH.out]; try (congr 1; omega), by go_num, rfl⟩
      case measure => omega
    · have hik : i = k := by omega
      subst hik
      go_wp2_with fail
      go_ret
      exact ⟨rfl, rfl⟩
set_option maxRecDepth 100000 in
set_option maxHeartbeats 2000000 in
theorem derC (n : Nat) (w : World) (hn : n ≤ 12) : Calls Try.prog 100 #[.int .i64 n] w (QR (.int .i64 (dgN n)) w) := by
  have DB := Lib.hid dg_bd
  have DB2 := Lib.hid dg_bd2
  have DS := Lib.hid (fun k => show dgN (k + 1) = dgN k * ((k : Int) + 1) + sgN (k + 1) from rfl)
  have D0 := Lib.hid (show dgN 0 = 1 from rfl)
  have SB := Lib.hid sg_bd
  have P := Lib.hid (fun k (hk : k ≤ 12) w => powNeg k w (by omega))
  obtain ⟨D, hD⟩ : ∃ D : Nat → Int, D = dgN := ⟨_, rfl⟩
  obtain ⟨S, hS⟩ : ∃ S : Nat → Int, S = sgN := ⟨_, rfl⟩
  rw [← hD] at DB DB2 DS D0 ⊢
  rw [← hS] at DS SB P
  clear hD hS
  go_enter Try.func100, Try.ntmps100
  go_wp2_with fail
  go_loopg [3, 6] n (fun gg s t wr => ∃ i : Nat, i ≤ n ∧ n - i ≤ gg ∧ s = .int .i64 (D i) ∧ t = .int .i64 i ∧ w = wr)
  case atStart => exact ⟨0, Nat.zero_le _, by omega, by rw [D0.out], rfl, rfl⟩
  case round =>
    obtain ⟨i, hi, hgg, rfl, rfl, rfl⟩ := hrel
    by_cases hlt : i < n
    · have b1 := DB.out i (by omega)
      have b2 := DB2.out i (by omega)
      have b3 := SB.out (i + 1)
      have ds := DS.out i
      have P1 := Lib.hid (fun w => P.out (i + 1) (by omega) w)
      rw [show ((i + 1 : Nat) : Int) = (i : Int) + 1 by omega] at P1
      obtain ⟨x, hx⟩ : ∃ x, x = S (i + 1) := ⟨_, rfl⟩
      rw [← hx] at P1 b3 ds
      obtain ⟨y, hy⟩ : ∃ y, y = D i := ⟨_, rfl⟩
      rw [← hy] at b1 b2 ds ⊢
      obtain ⟨p, hp⟩ : ∃ p, p = y * ((i : Int) + 1) := ⟨_, rfl⟩
      rw [← hp] at b2 ds
      have W1 : IntKind.i64.wrap (y * ((i : Int) + 1)) = p := by rw [← hp]; exact IntWalk.i64_in _ (by omega)
      have PH := Lib.hid ds
      have hi12 : i ≤ 12 := by omega
      clear ds hp hy hx
      go_wp2_with fail
      refine (P1.out _).mono ?_
      rintro e w1 ⟨rfl, rfl⟩
      go_wp2_with fail
      go_roundg (n - (i + 1))
      case rel => exact ⟨i + 1, by omega, by omega, by rw [PH.out], by go_num, rfl⟩
      case measure => omega
    · have hik : i = n := by omega
      subst hik
      go_wp2_with fail
      go_ret
      exact ⟨rfl, rfl⟩
set_option maxRecDepth 100000 in
set_option maxHeartbeats 2000000 in
theorem derS (n : Nat) (w : World) (hn : n ≤ 12) : Calls Try.prog 101 #[.int .i64 n] w (QR (.int .i64 (dgN n)) w) := by
  have DB := Lib.hid dg_bd
  have DB2 := Lib.hid dg_bd2
  have DS0 := Lib.hid (fun k (h : k % 2 = 0) => show dgN (k + 1) = dgN k * ((k : Int) + 1) - 1 from by
    show dgN k * ((k : Int) + 1) + sgN (k + 1) = _
    unfold sgN; rw [if_neg (by omega)]; omega)
  have DS1 := Lib.hid (fun k (h : ¬ k % 2 = 0) => show dgN (k + 1) = dgN k * ((k : Int) + 1) + 1 from by
    show dgN k * ((k : Int) + 1) + sgN (k + 1) = _
    unfold sgN; rw [if_pos (by omega)])
  have D0 := Lib.hid (show dgN 0 = 1 from rfl)
  obtain ⟨D, hD⟩ : ∃ D : Nat → Int, D = dgN := ⟨_, rfl⟩
  rw [← hD] at DB DB2 DS0 DS1 D0 ⊢
  clear hD
  go_enter Try.func101, Try.ntmps101
  go_wp2_with fail
  go_loopg [3, 4] n (fun gg s t wr => ∃ i : Nat, i ≤ n ∧ n - i ≤ gg ∧ s = .int .i64 (D i) ∧ t = .int .i64 ((i : Int) + 1) ∧ w = wr)
  case atStart => exact ⟨0, Nat.zero_le _, by omega, by rw [D0.out], rfl, rfl⟩
  case round =>
    obtain ⟨i, hi, hgg, rfl, rfl, rfl⟩ := hrel
    by_cases hlt : i < n
    · have b1 := DB.out i (by omega)
      have b2 := DB2.out i (by omega)
      have ti : (i : Int) + 1 ≤ (n : Int) := by omega
      have hi12 : i ≤ 12 := by omega
      obtain ⟨y, hy⟩ : ∃ y, y = D i := ⟨_, rfl⟩
      by_cases hpar : i % 2 = 0
      · have ds := DS0.out i hpar
        rw [← hy] at b1 b2 ds ⊢
        obtain ⟨p, hp⟩ : ∃ p, p = y * ((i : Int) + 1) := ⟨_, rfl⟩
        rw [← hp] at b2 ds
        have W1 : IntKind.i64.wrap (((i : Int) + 1) * y) = p := by rw [Int.mul_comm, ← hp]; exact IntWalk.i64_in _ (by omega)
        have T1 : Int.tmod ((i : Int) + 1) 2 = 1 := by rw [Int.tmod_eq_emod_of_nonneg (by omega)]; omega
        have PH := Lib.hid ds
        clear ds hp hy hpar
        go_wp2_with fail
        go_roundg (n - (i + 1))
        case rel => exact ⟨i + 1, by omega, by omega, by rw [PH.out], by go_num, rfl⟩
        case measure => omega
      · have ds := DS1.out i hpar
        rw [← hy] at b1 b2 ds ⊢
        obtain ⟨p, hp⟩ : ∃ p, p = y * ((i : Int) + 1) := ⟨_, rfl⟩
        rw [← hp] at b2 ds
        have W1 : IntKind.i64.wrap (((i : Int) + 1) * y) = p := by rw [Int.mul_comm, ← hp]; exact IntWalk.i64_in _ (by omega)
        have T1 : Int.tmod ((i : Int) + 1) 2 = 0 := by rw [Int.tmod_eq_emod_of_nonneg (by omega)]; omega
        have PH := Lib.hid ds
        clear ds hp hy hpar
        go_wp2_with fail
        go_roundg (n - (i + 1))
        case rel => exact ⟨i + 1, by omega, by omega, by rw [PH.out], by go_num, rfl⟩
        case measure => omega
    · have hik : i = n := by omega
      subst hik
      have ti : ¬ (i : Int) + 1 ≤ (i : Int) := by omega
      go_wp2_with fail
      go_ret
      exact ⟨rfl, rfl⟩
def dcV (n : Int) : Int := if okC 0 n = true then dgN n.toNat else 0
set_option maxRecDepth 100000 in
theorem dcC (n : Int) (w : World) : Calls Try.prog 50 #[.int .i64 n] w (QR (.tuple #[.int .i64 (dcV n), .bool (okC 0 n)]) w) := by
  have F := Lib.hid (fun w => fromI n 0 12 w)
  by_cases h : 0 ≤ n ∧ n ≤ 12
  · have e1 : okC 0 n = true := decide_eq_true h
    have e2 : dcV n = dgN n.toNat := by unfold dcV; rw [if_pos e1]
    rw [e1, e2]
    rw [decide_eq_true h] at F
    obtain ⟨m, rfl⟩ : ∃ m : Nat, n = m := ⟨n.toNat, by omega⟩
    rw [Int.toNat_natCast]
    have C := Lib.hid (fun w => derC m w (by omega))
    clear e1 e2 h
    go_enter Try.func50, Try.ntmps50
    go_wp2_with fail
    refine (F.out _).mono ?_
    rintro e w1 ⟨rfl, rfl⟩
    go_wp2_with fail
    refine (C.out _).mono ?_
    rintro e w2 ⟨rfl, rfl⟩
    go_wp2_with fail
    go_ret2
    exact ⟨rfl, rfl⟩
  · have e1 : okC 0 n = false := decide_eq_false h
    have e2 : dcV n = 0 := by unfold dcV; rw [if_neg (by rw [e1]; decide)]
    rw [e1, e2]
    rw [decide_eq_false h] at F
    clear e1 e2 h
    go_enter Try.func50, Try.ntmps50
    go_wp2_with fail
    refine (F.out _).mono ?_
    rintro e w1 ⟨rfl, rfl⟩
    go_wp2_with fail
    go_ret2
    exact ⟨rfl, rfl⟩
set_option maxRecDepth 100000 in
theorem dcS (n : Int) (w : World) : Calls Try.prog 51 #[.int .i64 n] w (QR (.tuple #[.int .i64 (dcV n), .bool (okC 0 n)]) w) := by
  have F := Lib.hid (fun w => inS n 0 12 w)
  by_cases h : 0 ≤ n ∧ n ≤ 12
  · have e1 : okC 0 n = true := decide_eq_true h
    have e2 : dcV n = dgN n.toNat := by unfold dcV; rw [if_pos e1]
    rw [e1, e2]
    rw [decide_eq_true h] at F
    obtain ⟨m, rfl⟩ : ∃ m : Nat, n = m := ⟨n.toNat, by omega⟩
    rw [Int.toNat_natCast]
    have C := Lib.hid (fun w => derS m w (by omega))
    clear e1 e2 h
    go_enter Try.func51, Try.ntmps51
    go_wp2_with fail
    refine (F.out _).mono ?_
    rintro e w1 ⟨rfl, rfl⟩
    go_wp2_with fail
    refine (C.out _).mono ?_
    rintro e w2 ⟨rfl, rfl⟩
    go_wp2_with fail
    go_ret2
    exact ⟨rfl, rfl⟩
  · have e1 : okC 0 n = false := decide_eq_false h
    have e2 : dcV n = 0 := by unfold dcV; rw [if_neg (by rw [e1]; decide)]
    rw [e1, e2]
    rw [decide_eq_false h] at F
    clear e1 e2 h
    go_enter Try.func51, Try.ntmps51
    go_wp2_with fail
    refine (F.out _).mono ?_
    rintro e w1 ⟨rfl, rfl⟩
    go_wp2_with fail
    go_ret2
    exact ⟨rfl, rfl⟩
end Go.Proofs.Ytagoodkaobcjaab
