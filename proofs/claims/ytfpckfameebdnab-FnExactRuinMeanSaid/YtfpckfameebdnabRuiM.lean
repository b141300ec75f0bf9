/- The chance and the mean of ruin, in the model. -/
import Derived.Test.YtfpckfameebdnabRuiI
import Derived.Test.YtfpckfameebdnabFracK
namespace Go.Proofs.Ytfpckfameebdnab
open Go.RowKit
set_option linter.unusedVariables false

set_option maxRecDepth 100000 in
set_option maxHeartbeats 2000000 in
theorem powS (b k : Nat) (w : World) (hb : b ≤ 20) (h : ∀ j, j ≤ k → b ^ j ≤ 4096000000000000) (hk : k ≤ 1000) : Calls Try.prog 60 #[.int .i64 b, .int .i64 k] w (QR (.int .i64 (b ^ k : Nat)) w) := by
  have PB := Lib.hid h
  have PS := Lib.hid (fun i => show b ^ (i + 1) = b ^ i * b from Nat.pow_succ ..)
  have P0 := Lib.hid (show b ^ 0 = 1 from Nat.pow_zero _)
  clear h
  obtain ⟨F, hF⟩ : ∃ F : Nat → Nat, F = fun i => b ^ i := ⟨_, rfl⟩
  have FD : ∀ i, b ^ i = F i := fun i => by rw [hF]
  simp only [FD] at PB PS P0 ⊢
  clear hF FD
  go_enter Try.func60, Try.ntmps60
  go_wp2_with fail
  go_loopg [5, 6] k (fun gg s t wr => ∃ i : Nat, i ≤ k ∧ k - i ≤ gg ∧ s = .int .i64 (F i : Nat) ∧ t = .int .i64 i ∧ w = wr)
  case atStart => exact ⟨0, Nat.zero_le _, by omega, by rw [P0.out]; rfl, rfl, rfl⟩
  case round =>
    obtain ⟨i, hi, hgg, rfl, rfl, rfl⟩ := hrel
    by_cases hlt : i < k
    · have pb := PB.out i hi
      have pb1 := PB.out (i + 1) (by omega)
      have ps := PS.out i
      have WR : IntKind.i64.wrap ((F i : Int) * (b : Int)) = (F i : Int) * (b : Int) := IntWalk.i64_in _ (by rw [← Int.natCast_mul, ← ps]; omega)
      have PE := Lib.hid (show ((F i : Int) * (b : Int)) = (F (i + 1) : Nat) by rw [ps, Int.natCast_mul])
      clear ps pb1
      go_wp2_with fail
      go_roundg (k - (i + 1))
      case rel => exact ⟨i + 1, by omega, by omega, by rw [← PE.out], by go_num, rfl⟩
      case measure => omega
    · have hik : i = k := by omega
      subst hik
      go_wp2_with fail
      go_ret
      exact ⟨rfl, rfl⟩

set_option maxRecDepth 100000 in
set_option maxHeartbeats 2000000 in
theorem termsS (a b k : Nat) (w : World) (ha : a ≤ 20) (hb : b ≤ 20) (hk : k ≤ 12) : Calls Try.prog 61 #[.int .i64 a, .int .i64 b, .int .i64 k] w (QR (.int .i64 (tsN a b k k : Nat)) w) := by
  have TB := Lib.hid (fun j (hj : j ≤ k) => ts_bd12 (a := a) (b := b) (k := k) ha hb hk hj)
  have TS := Lib.hid (fun j => show tsN a b k (j + 1) = tsN a b k j + a ^ j * b ^ (k - 1 - j) from rfl)
  have T0 := Lib.hid (show tsN a b k 0 = 0 from rfl)
  have PA := Lib.hid (fun j (hj : j ≤ 12) w => powS a j w ha (pow_le_of ha hj) (by omega))
  have PB := Lib.hid (fun j (hj : j ≤ 12) w => powS b j w hb (pow_le_of hb hj) (by omega))
  obtain ⟨T, hT⟩ : ∃ T : Nat → Nat, T = fun j => tsN a b k j := ⟨_, rfl⟩
  have TD : ∀ j, tsN a b k j = T j := fun j => by rw [hT]
  simp only [TD] at TB TS T0 ⊢
  clear hT TD
  go_enter Try.func61, Try.ntmps61
  go_wp2_with fail
  go_loopg [7, 8] k (fun gg s t wr => ∃ j : Nat, j ≤ k ∧ k - j ≤ gg ∧ s = .int .i64 (T j : Nat) ∧ t = .int .i64 j ∧ w = wr)
  case atStart => exact ⟨0, Nat.zero_le _, by omega, by rw [T0.out]; rfl, rfl, rfl⟩
  case round =>
    obtain ⟨j, hj, hgg, rfl, rfl, rfl⟩ := hrel
    by_cases hlt : j < k
    · have tb := TB.out j hj
      have tb1 := TB.out (j + 1) (by omega)
      have ts := TS.out j
      have P1 := Lib.hid (PA.out j (by omega))
      have P2 := Lib.hid (PB.out (k - 1 - j) (by omega))
      rw [show ((k - 1 - j : Nat) : Int) = (k : Int) - 1 - j by omega] at P2
      obtain ⟨x, hx⟩ : ∃ x, x = a ^ j := ⟨_, rfl⟩
      obtain ⟨y, hy⟩ : ∃ y, y = b ^ (k - 1 - j) := ⟨_, rfl⟩
      rw [← hx] at P1 ts
      rw [← hy] at P2 ts
      have xb : x * y ≤ 2457600000000000 := by omega
      have WR : IntKind.i64.wrap ((x : Int) * (y : Int)) = (x : Int) * (y : Int) := IntWalk.i64_in _ (by rw [← Int.natCast_mul]; omega)
      have PE := Lib.hid (show (T j : Int) + (x : Int) * (y : Int) = (T (j + 1) : Nat) by rw [ts, ← Int.natCast_mul]; omega)
      have zb : 0 ≤ (x : Int) * (y : Int) ∧ (x : Int) * (y : Int) ≤ 2457600000000000 := by rw [← Int.natCast_mul]; omega
      clear hx hy ts xb tb1
      go_wp2_with fail
      refine (P1.out _).mono ?_
      rintro e w1 ⟨rfl, rfl⟩
      go_wp2_with fail
      refine (P2.out _).mono ?_
      rintro e w2 ⟨rfl, rfl⟩
      go_wp2_with fail
      go_roundg (k - (j + 1))
      case rel => exact ⟨j + 1, by omega, by omega, by rw [← PE.out], by go_num, rfl⟩
      case measure => omega
    · have hjk : j = k := by omega
      subst hjk
      go_wp2_with fail
      go_ret
      exact ⟨rfl, rfl⟩

set_option maxRecDepth 100000 in
set_option maxHeartbeats 2000000 in
theorem chanceS (a b i n : Nat) (w : World) (ha : 1 ≤ a ∧ a ≤ 20) (hb : 1 ≤ b ∧ b ≤ 20) (hn : 1 ≤ n ∧ n ≤ 12) (hi : i ≤ n) : Calls Try.prog 36 #[.int .i64 a, .int .i64 b, .int .i64 i, .int .i64 n] w (Gives (.agg #[.int .i64 (rcN a b i n), .int .i64 (rcD a b i n)]) w) := by
  have B0 := Lib.hid (Below.refl (w.alloc (.cells #[.int .i64 0, .int .i64 0] 22)).heap.size (w.alloc (.cells #[.int .i64 0, .int .i64 0] 22)))
  by_cases hab : a = b
  · unfold rcN rcD
    rw [if_pos hab, if_pos hab]
    subst hab
    have C := Lib.hid (fun w => cutS i n w (by omega) (by omega))
    generalize cutN (i : Int) (n : Int) = NN at *
    generalize cutD (i : Int) (n : Int) = DD at *
    go_enter Try.func36, Try.ntmps36
    go_wp2_with fail
    refine (C.out _).mono ?_
    rintro e w1 ⟨rfl, b1⟩
    have B1 := Lib.hid b1
    clear b1
    obtain ⟨⟨x0, y0⟩, x1, y1⟩ := res_cells B1.out
    go_wp2_with fail
    refine bodyPost_ret (v := .agg #[.int .i64 NN, .int .i64 DD]) (by simp [results, Try.results36, go_sem, x0, x1]) rfl ⟨rfl, ?_⟩
    exact res_fin B1.out
  · have z : ((a : Int) == (b : Int)) = false := by simp; omega
    have tb := ts_bd12 (k := n) (j := n) ha.2 hb.2 hn.2 (Nat.le_refl n)
    have tb2 := ts_bd12 (k := i) (j := i) ha.2 hb.2 (by omega) (Nat.le_refl i)
    have tp := ts_pos ha.1 hb.1 hn.1
    have rb := rtN_bd (i := i) ha.2 hb.2 hn.2 hi
    have xb := pow_bd (k := n - i) ha.2 (by omega)
    have C := Lib.hid (fun w => cutS (rtN a b i n : Nat) (tsN a b n n : Nat) w (by omega) (by omega))
    unfold rcN rcD
    rw [if_neg hab, if_neg hab]
    have P1 := Lib.hid (fun w => powS a (n - i) w ha.2 (pow_le_of ha.2 (by omega)) (by omega))
    rw [show ((n - i : Nat) : Int) = (n : Int) - i by omega] at P1
    have T1 := Lib.hid (fun w => termsS a b i w ha.2 hb.2 (by omega))
    have T2 := Lib.hid (fun w => termsS a b n w ha.2 hb.2 hn.2)
    obtain ⟨NN, hNN⟩ : ∃ x, x = cutN (rtN a b i n : Nat) (tsN a b n n : Nat) := ⟨_, rfl⟩
    obtain ⟨DD, hDD⟩ : ∃ x, x = cutD (rtN a b i n : Nat) (tsN a b n n : Nat) := ⟨_, rfl⟩
    rw [← hNN, ← hDD] at C
    rw [← hNN, ← hDD]
    unfold rtN at C rb
    obtain ⟨x, hx⟩ : ∃ x, x = a ^ (n - i) := ⟨_, rfl⟩
    obtain ⟨y, hy⟩ : ∃ y, y = tsN a b i i := ⟨_, rfl⟩
    obtain ⟨t, ht⟩ : ∃ t, t = tsN a b n n := ⟨_, rfl⟩
    rw [← hx] at P1 C rb xb
    rw [← hy] at T1 C rb tb2
    rw [← ht] at T2 C tb
    rw [Int.natCast_mul] at C
    have WR : IntKind.i64.wrap ((x : Int) * (y : Int)) = (x : Int) * (y : Int) := IntWalk.i64_in _ (by rw [← Int.natCast_mul]; omega)
    clear hx hy ht hNN hDD rb tp hab
    go_enter Try.func36, Try.ntmps36
    go_wp2_with fail
    refine (P1.out _).mono ?_
    rintro e w1 ⟨rfl, rfl⟩
    go_wp2_with fail
    refine (T1.out _).mono ?_
    rintro e w2 ⟨rfl, rfl⟩
    go_wp2_with fail
    refine (T2.out _).mono ?_
    rintro e w3 ⟨rfl, rfl⟩
    go_wp2_with fail
    refine (C.out _).mono ?_
    rintro e w1 ⟨rfl, b1⟩
    have B1 := Lib.hid b1
    clear b1
    obtain ⟨⟨x0, y0⟩, x1, y1⟩ := res_cells B1.out
    go_wp2_with fail
    refine bodyPost_ret (v := .agg #[.int .i64 NN, .int .i64 DD]) (by simp [results, Try.results36, go_sem, x0, x1]) rfl ⟨rfl, ?_⟩
    exact res_fin B1.out

set_option maxRecDepth 100000 in
set_option maxHeartbeats 2000000 in
theorem oddsS (a b : Int) (w : World) : Calls Try.prog 58 #[.int .i64 a, .int .i64 b] w (QR (.bool (decide ((1 ≤ a ∧ a ≤ 20) ∧ (1 ≤ b ∧ b ≤ 20)))) w) := by
  have F := Lib.hid (fun w => inS a 1 20 w)
  have G := Lib.hid (fun w => inS b 1 20 w)
  by_cases h1 : 1 ≤ a ∧ a ≤ 20
  · rw [decide_eq_true h1] at F
    rw [show decide ((1 ≤ a ∧ a ≤ 20) ∧ (1 ≤ b ∧ b ≤ 20)) = decide (1 ≤ b ∧ b ≤ 20) by simp [h1]]
    generalize decide (1 ≤ b ∧ b ≤ 20) = c at *
    clear h1
    go_enter Try.func58, Try.ntmps58
    go_wp2_with fail
    refine (F.out _).mono ?_
    rintro e w1 ⟨rfl, rfl⟩
    go_wp2_with fail
    refine (G.out _).mono ?_
    rintro e w2 ⟨rfl, rfl⟩
    go_wp2_with fail
    go_ret
    exact ⟨rfl, rfl⟩
  · rw [decide_eq_false h1] at F
    rw [decide_eq_false (fun h => h1 h.1)]
    clear h1
    go_enter Try.func58, Try.ntmps58
    go_wp2_with fail
    refine (F.out _).mono ?_
    rintro e w1 ⟨rfl, rfl⟩
    go_wp2_with fail
    go_ret
    exact ⟨rfl, rfl⟩

set_option maxRecDepth 100000 in
set_option maxHeartbeats 2000000 in
theorem gameS (a b i n : Int) (w : World) : Calls Try.prog 34 #[.int .i64 a, .int .i64 b, .int .i64 i, .int .i64 n] w (QR (.bool (ruinOk a b i n)) w) := by
  have F := Lib.hid (fun w => oddsS a b w)
  have G := Lib.hid (fun w => inS n 1 12 w)
  have K := Lib.hid (fun w => inS i 0 n w)
  have RR : ruinOk a b i n = (decide ((1 ≤ a ∧ a ≤ 20) ∧ (1 ≤ b ∧ b ≤ 20)) && (decide (1 ≤ n ∧ n ≤ 12) && decide (0 ≤ i ∧ i ≤ n))) := by
    unfold ruinOk gamOk
    rw [Bool.eq_iff_iff]
    simp only [Bool.and_eq_true, decide_eq_true_eq]
    constructor
    · rintro ⟨⟨p, q, r⟩, s⟩; exact ⟨⟨p, q⟩, r, s⟩
    · rintro ⟨⟨p, q⟩, r, s⟩; exact ⟨⟨p, q, r⟩, s⟩
  rw [RR]
  generalize decide ((1 ≤ a ∧ a ≤ 20) ∧ (1 ≤ b ∧ b ≤ 20)) = c1 at *
  generalize decide (1 ≤ n ∧ n ≤ 12) = c2 at *
  generalize decide (0 ≤ i ∧ i ≤ n) = c3 at *
  clear RR
  cases c1
  · go_enter Try.func34, Try.ntmps34
    go_wp2_with fail
    refine (F.out _).mono ?_
    rintro e w1 ⟨rfl, rfl⟩
    go_wp2_with fail
    go_ret
    exact ⟨rfl, rfl⟩
  · cases c2
    · go_enter Try.func34, Try.ntmps34
      go_wp2_with fail
      refine (F.out _).mono ?_
      rintro e w1 ⟨rfl, rfl⟩
      go_wp2_with fail
      refine (G.out _).mono ?_
      rintro e w2 ⟨rfl, rfl⟩
      go_wp2_with fail
      go_ret
      exact ⟨rfl, rfl⟩
    · go_enter Try.func34, Try.ntmps34
      go_wp2_with fail
      refine (F.out _).mono ?_
      rintro e w1 ⟨rfl, rfl⟩
      go_wp2_with fail
      refine (G.out _).mono ?_
      rintro e w2 ⟨rfl, rfl⟩
      go_wp2_with fail
      refine (K.out _).mono ?_
      rintro e w3 ⟨rfl, rfl⟩
      go_wp2_with fail
      go_ret
      exact ⟨rfl, rfl⟩

theorem kept_rc (a b i n : Nat) (w : World) (ha : 1 ≤ a) (hb : 1 ≤ b) (hn : 1 ≤ n) : Calls Try.prog 35 #[.agg #[.int .i64 (rcN a b i n), .int .i64 (rcD a b i n)]] w (Gives (keptV (rcN a b i n) (rcD a b i n)) w) := by
  unfold rcN rcD
  split
  · exact keptS_cut w (by omega)
  · have := ts_pos ha hb hn
    exact keptS_cut w (by omega)

set_option maxRecDepth 100000 in
set_option maxHeartbeats 2000000 in
theorem rcS (a b i n : Int) (w : World) : Calls Try.prog 12 #[.int .i64 a, .int .i64 b, .int .i64 i, .int .i64 n] w (Gives (rcV a b i n) w) := by
  cases hk : ruinOk a b i n
  · have e1 : rcV a b i n = zeroP := if_neg (by rw [hk]; decide)
    rw [e1]
    unfold zeroP
    have G := Lib.hid (fun w => gameS a b i n w)
    rw [hk] at G
    have B2 := Lib.hid (Below.refl (w.alloc (.cells #[.int .i64 0, .int .i64 0] 22)).heap.size (w.alloc (.cells #[.int .i64 0, .int .i64 0] 22)))
    clear hk e1
    go_enter Try.func12, Try.ntmps12
    go_wp2_with fail
    refine (G.out _).mono ?_
    rintro e w1 ⟨rfl, rfl⟩
    go_wp2_with fail
    refine bodyPost_ret (v := .tuple #[.agg #[.int .i64 0, .int .i64 0], .bool false]) (by simp [results, Try.results12, go_sem]) rfl ⟨rfl, ?_⟩
    first | exact res_fin B2.out | exact (Below.refl w.heap.size w).alloc (Nat.le_refl _) _
  · have e1 : rcV a b i n = keptV (rcN a.toNat b.toNat i.toNat n.toNat) (rcD a.toNat b.toNat i.toNat n.toNat) := if_pos hk
    rw [e1]
    have G := Lib.hid (fun w => gameS a b i n w)
    rw [hk] at G
    obtain ⟨A, B, J, N, rfl, rfl, rfl, rfl, hA, hB, hN, hJ⟩ := ruin_mk hk
    simp only [Int.toNat_natCast]
    have CH := Lib.hid (fun w => chanceS A B J N w hA hB hN hJ)
    have RD := Lib.hid (fun w => kept_rc A B J N w hA.1 hB.1 hN.1)
    obtain ⟨p, q, okk, hK⟩ := keptV_form (rcN A B J N) (rcD A B J N)
    rw [hK] at RD ⊢
    generalize rcN A B J N = X at *
    generalize rcD A B J N = Y at *
    clear hk e1 hK
    go_enter Try.func12, Try.ntmps12
    go_wp2_with fail
    refine (G.out _).mono ?_
    rintro e w1 ⟨rfl, rfl⟩
    go_wp2_with fail
    refine (CH.out _).mono ?_
    rintro e w2 ⟨rfl, b2⟩
    have B2 := Lib.hid b2
    clear b2
    go_wp2_with fail
    refine (RD.out _).mono ?_
    rintro e w4 ⟨rfl, b4⟩
    have B4 := Lib.hid (below_then B2.out b4)
    clear b4
    obtain ⟨⟨x0, y0⟩, x1, y1⟩ := res_cells B4.out
    go_wp2_with fail
    refine bodyPost_ret (v := .tuple #[.agg #[.int .i64 p, .int .i64 q], .bool okk]) (by simp [results, Try.results12, go_sem, x0, x1]) rfl ⟨rfl, ?_⟩
    exact res_fin B4.out

set_option maxRecDepth 100000 in
set_option maxHeartbeats 2000000 in
theorem rmS (a b i n : Int) (w : World) : Calls Try.prog 15 #[.int .i64 a, .int .i64 b, .int .i64 i, .int .i64 n] w (Gives (rmV a b i n) w) := by
  cases hk : ruinOk a b i n
  · have e1 : rmV a b i n = zeroP := if_neg (by rw [hk]; decide)
    rw [e1]
    unfold zeroP
    have G := Lib.hid (fun w => gameS a b i n w)
    rw [hk] at G
    have B2 := Lib.hid (Below.refl (w.alloc (.cells #[.int .i64 0, .int .i64 0] 22)).heap.size (w.alloc (.cells #[.int .i64 0, .int .i64 0] 22)))
    clear hk e1
    go_enter Try.func15, Try.ntmps15
    go_wp2_with fail
    refine (G.out _).mono ?_
    rintro e w1 ⟨rfl, rfl⟩
    go_wp2_with fail
    refine bodyPost_ret (v := .tuple #[.agg #[.int .i64 0, .int .i64 0], .bool false]) (by simp [results, Try.results15, go_sem]) rfl ⟨rfl, ?_⟩
    first | exact res_fin B2.out | exact (Below.refl w.heap.size w).alloc (Nat.le_refl _) _
  · have e1 : rmV a b i n = rmK a.toNat b.toNat i.toNat n.toNat := if_pos hk
    rw [e1]
    have G := Lib.hid (fun w => gameS a b i n w)
    rw [hk] at G
    obtain ⟨A, B, J, N, rfl, rfl, rfl, rfl, hA, hB, hN, hJ⟩ := ruin_mk hk
    simp only [Int.toNat_natCast]
    have CH := Lib.hid (fun w => chanceS A B J N w hA hB hN hJ)
    by_cases hab : A = B
    · subst hab
      have mi := mul_in hJ hN.2
      have e3 : rmK A A J N = .tuple #[.agg #[.int .i64 ((J : Int) * ((N : Int) - J)), .int .i64 1], .bool true] := by
        unfold rmK keptV inB
        rw [if_pos rfl, decide_eq_true (by omega)]; rfl
      rw [e3]
      have WR : IntKind.i64.wrap ((J : Int) * ((N : Int) - J)) = (J : Int) * ((N : Int) - J) := IntWalk.i64_in _ (by omega)
      have B2 := Lib.hid (Below.refl (w.alloc (.cells #[.int .i64 0, .int .i64 0] 22)).heap.size (w.alloc (.cells #[.int .i64 0, .int .i64 0] 22)))
      clear hk e1 e3 mi CH
      go_enter Try.func15, Try.ntmps15
      go_wp2_with fail
      refine (G.out _).mono ?_
      rintro e w1 ⟨rfl, rfl⟩
      go_wp2_with fail
      refine bodyPost_ret (v := .tuple #[.agg #[.int .i64 ((J : Int) * ((N : Int) - J)), .int .i64 1], .bool true]) (by simp [results, Try.results15, go_sem]) rfl ⟨rfl, ?_⟩
      first | exact res_fin B2.out | exact (Below.refl w.heap.size w).alloc (Nat.le_refl _) _
    · have z : ((A : Int) == (B : Int)) = false := by simp; omega
      have dp := rmD'_pos (i := J) hab hA.1 hB.1 hN.1
      obtain ⟨t1, t2, t3, t4, t5⟩ := rmT_bd hab hA hB hN hJ
      obtain ⟨u1, u2, u3⟩ := rc_bd hab hA hB hN hJ
      have nb : (rmN' A B J N).natAbs ≤ 2359296000000000000 ∧ (rmD' A B J N).natAbs ≤ 46694400000000000 := by unfold rmN' rmD'; split <;> omega
      have CU := Lib.hid (fun w => cutS (rmN' A B J N) (rmD' A B J N) w (by omega) (by omega))
      have KP := Lib.hid (fun w => keptS_cut (a := rmN' A B J N) (b := rmD' A B J N) w dp)
      rw [show rmK A B J N = keptV (cutN (rmN' A B J N) (rmD' A B J N)) (cutD (rmN' A B J N) (rmD' A B J N)) from if_neg hab]
      obtain ⟨p, q, okk, hK⟩ := keptV_form (cutN (rmN' A B J N) (rmD' A B J N)) (cutD (rmN' A B J N) (rmD' A B J N))
      rw [hK] at KP ⊢
      obtain ⟨CN, hCN⟩ : ∃ x, x = cutN (rmN' A B J N) (rmD' A B J N) := ⟨_, rfl⟩
      obtain ⟨CD, hCD⟩ : ∃ x, x = cutD (rmN' A B J N) (rmD' A B J N) := ⟨_, rfl⟩
      rw [← hCN, ← hCD] at CU KP
      clear hCN hCD hK nb e1 hk
      by_cases h : A < B
      · rw [show rmN' A B J N = rmT A B J N from if_pos h, show rmD' A B J N = rmB A B J N from if_pos h] at CU
        rw [show rmD' A B J N = rmB A B J N from if_pos h] at dp
        unfold rmT rmB at CU
        unfold rmB at dp t5
        unfold rmT at t4
        generalize rcN A B J N = X at *
        generalize rcD A B J N = Y at *
        have W1 : IntKind.i64.wrap ((J : Int) * Y) = (J : Int) * Y := IntWalk.i64_in _ (by omega)
        have W2 : IntKind.i64.wrap ((N : Int) * X) = (N : Int) * X := IntWalk.i64_in _ (by omega)
        have W3 : IntKind.i64.wrap ((J : Int) * Y - (N : Int) * X) = (J : Int) * Y - (N : Int) * X := IntWalk.i64_in _ (by omega)
        have W4 : IntKind.i64.wrap (((A : Int) + B) * ((J : Int) * Y - (N : Int) * X)) = ((A : Int) + B) * ((J : Int) * Y - (N : Int) * X) := IntWalk.i64_in _ (by omega)
        have W5 : IntKind.i64.wrap (((B : Int) - A) * Y) = ((B : Int) - A) * Y := IntWalk.i64_in _ (by omega)
        have np : ¬ ((B : Int) - A) * Y < 0 := by omega
        obtain ⟨TT, hTT⟩ : ∃ x, x = ((A : Int) + B) * ((J : Int) * Y - (N : Int) * X) := ⟨_, rfl⟩
        obtain ⟨BB, hBB⟩ : ∃ x, x = ((B : Int) - A) * Y := ⟨_, rfl⟩
        replace W4 := W4.trans hTT.symm
        replace W5 := W5.trans hBB.symm
        rw [← hTT] at CU t4
        rw [← hBB] at CU np t5
        clear hTT hBB dp t1 t2 t3 u1 u2 u3 hab
        go_enter Try.func15, Try.ntmps15
        go_wp2_with fail
        refine (G.out _).mono ?_
        rintro e w1 ⟨rfl, rfl⟩
        go_wp2_with fail
        refine (CH.out _).mono ?_
        rintro e w2 ⟨rfl, b2⟩
        have B2 := Lib.hid b2
        have BX := Lib.hid (Below.refl (w2.alloc (.cells #[.int .i64 X, .int .i64 Y] 22)).heap.size (w2.alloc (.cells #[.int .i64 X, .int .i64 Y] 22)))
        have k2 := alloc_heap w2 (.cells #[.int .i64 X, .int .i64 Y] 22)
        obtain ⟨c0, _⟩ := cell_of_heap (o := 0) k2 rfl
        obtain ⟨c1, _⟩ := cell_of_heap (o := 1) k2 rfl
        clear b2 k2
        go_wp2_with fail
        go_quiet (fail)
        go_wp2_with fail
        with_reducible refine (CU.out _).mono ?_
        rintro e w3 ⟨rfl, b3⟩
        have B3 := Lib.hid (show Below (w.alloc (.cells #[.int .i64 0, .int .i64 0] 22)).heap.size (w.alloc (.cells #[.int .i64 0, .int .i64 0] 22)) w3 from (B2.out.alloc B2.out.size (.cells #[.int .i64 X, .int .i64 Y] 22)).trans (Below.mono ⟨b3.os, b3.tape, b3.output, b3.size, b3.block⟩ (by have := B2.out.size; simp at this ⊢; omega)))
        clear b3 c0 c1
        go_wp2_with fail
        refine (KP.out _).mono ?_
        rintro e w4 ⟨rfl, b4⟩
        have B4 := Lib.hid (below_then B3.out b4)
        clear b4
        obtain ⟨⟨x0, y0⟩, x1, y1⟩ := res_cells B4.out
        go_wp2_with fail
        refine bodyPost_ret (v := .tuple #[.agg #[.int .i64 p, .int .i64 q], .bool okk]) (by simp [results, Try.results15, go_sem, x0, x1]) rfl ⟨rfl, ?_⟩
        exact res_fin B4.out
      · rw [show rmN' A B J N = -rmT A B J N from if_neg h, show rmD' A B J N = -rmB A B J N from if_neg h] at CU
        rw [show rmD' A B J N = -rmB A B J N from if_neg h] at dp
        unfold rmT rmB at CU
        unfold rmB at dp t5
        unfold rmT at t4
        generalize rcN A B J N = X at *
        generalize rcD A B J N = Y at *
        have W1 : IntKind.i64.wrap ((J : Int) * Y) = (J : Int) * Y := IntWalk.i64_in _ (by omega)
        have W2 : IntKind.i64.wrap ((N : Int) * X) = (N : Int) * X := IntWalk.i64_in _ (by omega)
        have W3 : IntKind.i64.wrap ((J : Int) * Y - (N : Int) * X) = (J : Int) * Y - (N : Int) * X := IntWalk.i64_in _ (by omega)
        have W4 : IntKind.i64.wrap (((A : Int) + B) * ((J : Int) * Y - (N : Int) * X)) = ((A : Int) + B) * ((J : Int) * Y - (N : Int) * X) := IntWalk.i64_in _ (by omega)
        have W5 : IntKind.i64.wrap (((B : Int) - A) * Y) = ((B : Int) - A) * Y := IntWalk.i64_in _ (by omega)
        have np : ((B : Int) - A) * Y < 0 := by omega
        obtain ⟨TT, hTT⟩ : ∃ x, x = ((A : Int) + B) * ((J : Int) * Y - (N : Int) * X) := ⟨_, rfl⟩
        obtain ⟨BB, hBB⟩ : ∃ x, x = ((B : Int) - A) * Y := ⟨_, rfl⟩
        replace W4 := W4.trans hTT.symm
        replace W5 := W5.trans hBB.symm
        rw [← hTT] at CU t4
        rw [← hBB] at CU np t5
        clear hTT hBB dp t1 t2 t3 u1 u2 u3 hab
        go_enter Try.func15, Try.ntmps15
        go_wp2_with fail
        refine (G.out _).mono ?_
        rintro e w1 ⟨rfl, rfl⟩
        go_wp2_with fail
        refine (CH.out _).mono ?_
        rintro e w2 ⟨rfl, b2⟩
        have B2 := Lib.hid b2
        have BX := Lib.hid (Below.refl (w2.alloc (.cells #[.int .i64 X, .int .i64 Y] 22)).heap.size (w2.alloc (.cells #[.int .i64 X, .int .i64 Y] 22)))
        have k2 := alloc_heap w2 (.cells #[.int .i64 X, .int .i64 Y] 22)
        obtain ⟨c0, _⟩ := cell_of_heap (o := 0) k2 rfl
        obtain ⟨c1, _⟩ := cell_of_heap (o := 1) k2 rfl
        clear b2 k2
        go_wp2_with fail
        go_quiet (fail)
        go_wp2_with fail
        with_reducible refine (CU.out _).mono ?_
        rintro e w3 ⟨rfl, b3⟩
        have B3 := Lib.hid (show Below (w.alloc (.cells #[.int .i64 0, .int .i64 0] 22)).heap.size (w.alloc (.cells #[.int .i64 0, .int .i64 0] 22)) w3 from (B2.out.alloc B2.out.size (.cells #[.int .i64 X, .int .i64 Y] 22)).trans (Below.mono ⟨b3.os, b3.tape, b3.output, b3.size, b3.block⟩ (by have := B2.out.size; simp at this ⊢; omega)))
        clear b3 c0 c1
        go_wp2_with fail
        refine (KP.out _).mono ?_
        rintro e w4 ⟨rfl, b4⟩
        have B4 := Lib.hid (below_then B3.out b4)
        clear b4
        obtain ⟨⟨x0, y0⟩, x1, y1⟩ := res_cells B4.out
        go_wp2_with fail
        refine bodyPost_ret (v := .tuple #[.agg #[.int .i64 p, .int .i64 q], .bool okk]) (by simp [results, Try.results15, go_sem, x0, x1]) rfl ⟨rfl, ?_⟩
        exact res_fin B4.out

end Go.Proofs.Ytfpckfameebdnab
