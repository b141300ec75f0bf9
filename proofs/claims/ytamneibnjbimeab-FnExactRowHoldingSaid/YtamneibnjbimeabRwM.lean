/- What rows of steps are worth, in the model. -/
import Derived.Test.YtamneibnjbimeabRwJ
import Derived.Test.YtamneibnjbimeabFracC
import Derived.Test.YtamneibnjbimeabFracK
import Derived.Test.YtamneibnjbimeabInS
namespace Go.Proofs.Ytamneibnjbimeab
open Go.RowKit
set_option linter.unusedVariables false
theorem rowS (n u d : Int) (w : World) : Calls Try.prog 65 #[.int .i64 n, .int .i64 u, .int .i64 d] w (QR (.bool (rowOk n u d)) w) := by
  have F := Lib.hid (fun w => inS n 0 4 w)
  have G := Lib.hid (fun w => inS u 1 9 w)
  have K := Lib.hid (fun w => inS d 1 9 w)
  have D : Hid (rowOk n u d = (decide (0 ≤ n ∧ n ≤ 4) && (decide (1 ≤ u ∧ u ≤ 9) && decide (1 ≤ d ∧ d ≤ 9)))) := Lib.hid (by unfold rowOk; rw [Bool.eq_iff_iff]; simp)
  generalize decide (0 ≤ n ∧ n ≤ 4) = a at *
  generalize decide (1 ≤ u ∧ u ≤ 9) = b at *
  generalize decide (1 ≤ d ∧ d ≤ 9) = c at *
  cases a
  · go_enter Try.func65, Try.ntmps65
    go_wp2_with fail
    refine (F.out _).mono ?_
    rintro e w1 ⟨rfl, rfl⟩
    go_wp2_with fail
    go_ret
    exact ⟨ret_b D.out, rfl⟩
  · cases b
    · go_enter Try.func65, Try.ntmps65
      go_wp2_with fail
      refine (F.out _).mono ?_
      rintro e w1 ⟨rfl, rfl⟩
      go_wp2_with fail
      refine (G.out _).mono ?_
      rintro e w2 ⟨rfl, rfl⟩
      go_wp2_with fail
      go_ret
      exact ⟨ret_b D.out, rfl⟩
    · go_enter Try.func65, Try.ntmps65
      go_wp2_with fail
      refine (F.out _).mono ?_
      rintro e w1 ⟨rfl, rfl⟩
      go_wp2_with fail
      refine (G.out _).mono ?_
      rintro e w2 ⟨rfl, rfl⟩
      go_wp2_with fail
      refine (K.out _).mono ?_
      rintro e w3 ⟨rfl, rfl⟩
      go_wp2_with fail
      go_ret
      exact ⟨ret_b (by rw [D.out]; rfl), rfl⟩
set_option maxHeartbeats 2000000 in
theorem valsS (L : List Int) (n : Int) (v : Value) (w : World) (hn : L.length ≤ 1048576) (h : IntsV w w.heap.size v L) :
    Calls Try.prog 66 #[v, .int .i64 n] w (Gives (.bool (decide ((L.length : Int) = n) && withinB 999 L)) w) := by
  obtain ⟨q1, d1, rfl, _, _, _, j1⟩ := h
  have Q1 := Lib.hid j1
  clear j1
  have D : Hid ((decide ((L.length : Int) = n) && withinB 999 L) = (((L.length : Int) == n) && withinB 999 L)) := Lib.hid (by
    congr 1)
  go_enter Try.func66, Try.ntmps66
  go_wp2_with fail
  go_loopw [5] (fun i wr => ∃ k : Nat, k ≤ L.length ∧ i = .int .i64 k ∧ Hid (∀ j, j < k → -999 ≤ L.getD j 0 ∧ L.getD j 0 ≤ 999) ∧ ∃ n, wr = w.drewN n) (fun i _ => L.length - (intOf i).toNat)
  case atStart => exact ⟨0, Nat.zero_le _, rfl, Lib.hid (fun j hj => by omega), 0, rfl⟩
  case round =>
    obtain ⟨k, hk, rfl, HA, m, rfl⟩ := hrel
    by_cases hlt : k < L.length
    · obtain ⟨b, off, rfl, hb, hc⟩ := Q1.out.get hlt
      have i0 : (0 : Int) ≤ (k : Int) := by omega
      have i1 : (k : Int) < (L.length : Int) := by omega
      have NO := Lib.hid (within_no (m := 999) hlt)
      have NX : Hid (-999 ≤ L.getD k 0 ∧ L.getD k 0 ≤ 999 → ∀ j, j < k + 1 → -999 ≤ L.getD j 0 ∧ L.getD j 0 ≤ 999) := Lib.hid (fun h j hj => by
        rcases Nat.lt_or_ge j k with h' | h'
        · exact HA.out j h'
        · obtain rfl : j = k := by omega
          exact h)
      obtain ⟨z, hz⟩ : ∃ z, z = L.getD k 0 := ⟨_, rfl⟩
      rw [← hz] at hc NO NX
      clear hz HA
      by_cases hin : -999 ≤ z ∧ z ≤ 999
      · have I := Lib.hid (fun w => inS_true z (-999) 999 w hin)
        have N2 := Lib.hid (NX.out hin)
        clear NX NO hin
        go_wp2_with fail
        refine (I.out _).mono ?_
        rintro e w1 ⟨rfl, rfl⟩
        go_wp2_with fail
        go_roundw
        case rel => exact ⟨k + 1, by omega, by go_num, N2, _, rfl⟩
        case measure => simp [intOf]; omega
      · have I := Lib.hid (fun w => inS_false z (-999) 999 w hin)
        have N2 := Lib.hid (NO.out hin)
        clear NX NO hin
        go_wp2_with fail
        refine (I.out _).mono ?_
        rintro e w1 ⟨rfl, rfl⟩
        go_wp2_with fail
        go_ret
        exact ⟨ret_b (by rw [N2.out, Bool.and_false]), below_drewN (Below.refl _ _) m⟩
    · have WI : Hid (withinB 999 L = true) := Lib.hid (within_yes (fun i hi => HA.out i (by omega)))
      clear HA
      go_wp2_with fail
      go_ret
      exact ⟨ret_b (by rw [D.out, WI.out, Bool.and_true]), below_drewN (Below.refl _ _) m⟩
set_option maxRecDepth 100000 in
set_option maxHeartbeats 2000000 in
theorem pow6S (b k : Nat) (w : World) (hb : b ≤ 18) (hk : k ≤ 4) : Calls Try.prog 70 #[.int .i64 b, .int .i64 k] w (QR (.int .i64 (b ^ k : Nat)) w) := by
  have PB := Lib.hid (fun j (hj : j ≤ k) => pow18 (b := b) (k := j) hb (by omega))
  have PS := Lib.hid (fun i => show b ^ (i + 1) = b ^ i * b from Nat.pow_succ ..)
  have P0 := Lib.hid (show b ^ 0 = 1 from Nat.pow_zero _)
  obtain ⟨F, hF⟩ : ∃ F : Nat → Nat, F = fun i => b ^ i := ⟨_, rfl⟩
  have FD : ∀ i, b ^ i = F i := fun i => by rw [hF]
  simp only [FD] at PB PS P0 ⊢
  clear hF FD
  go_enter Try.func70, Try.ntmps70
  go_wp2_with fail
  go_loopg [5, 6] k (fun gg s t wr => ∃ i : Nat, i ≤ k ∧ k - i ≤ gg ∧ s = .int .i64 (F i : Nat) ∧ t = .int .i64 i ∧ w = wr)
  case atStart => exact ⟨0, Nat.zero_le _, by omega, by rw [P0.out]; rfl, rfl, rfl⟩
  case round =>
    obtain ⟨i, hi, hgg, rfl, rfl, rfl⟩ := hrel
    by_cases hlt : i < k
    · have pb := PB.out i hi
      have pb1 := PB.out (i + 1) (by omega)
      have ps := PS.out i
      have WR : IntKind.i64.wrap ((F i : Int) * (b : Int)) = (F i : Int) * (b : Int) := IntWalk.i64_in _ (by rw [← Int.natCast_mul, ← ps]; omega)
      have PE := Lib.hid (show ((F i : Int) * (b : Int)) = (F (i + 1) : Nat) by rw [ps, Int.natCast_mul])
      clear ps pb1
      go_wp2_with fail
      go_roundg (k - (i + 1))
      case rel => exact ⟨i + 1, by omega, by omega, by rw [← PE.out], by go_num, rfl⟩
      case measure => omega
    · have hik : i = k := by omega
      subst hik
      go_wp2_with fail
      go_ret
      exact ⟨rfl, rfl⟩
set_option maxRecDepth 100000 in
set_option maxHeartbeats 4000000 in
theorem vtS (u d : Nat) (hu : 1 ≤ u ∧ u ≤ 9) (hd : 1 ≤ d ∧ d ≤ 9) : ∀ (k : Nat) (L : List Int) (v : Value) (w : World), k ≤ 4 → L.length = k + 1 → withinB 999 L = true → IntsV w w.heap.size v L →
    Calls Try.prog 69 #[.int .i64 (u : Int), .int .i64 (d : Int), v] w (Gives (.int .i64 (rvT u d k L)) w) := by
  intro k
  induction k with
  | zero =>
    intro L v w hk hl hw h
    obtain ⟨p, c, rfl, h1, h2, h3, h4⟩ := h
    obtain ⟨b, off, rfl, hb, hc⟩ := IntsAt.get h4 (i := 0) (by omega)
    have e1 : rvT u d 0 L = L.getD 0 0 := rfl
    rw [e1]
    rw [Nat.add_zero] at hc
    rw [hl]
    generalize L.getD 0 0 = z at *
    clear h1 h2 h3 h4 hw e1 hl
    go_enter Try.func69, Try.ntmps69
    go_wp2
    go_ret
    exact ⟨rfl, Below.refl _ _⟩
  | succ k ih =>
    intro L v w hk hl hw h
    obtain ⟨p, c, rfl, h1, h2, h3, h4⟩ := h
    have hI : IntsV w w.heap.size (.slice p L.length c) L := ⟨p, c, rfl, h1, h2, h3, h4⟩
    obtain ⟨b, off, rfl, hb, hc⟩ := IntsAt.get h4 (i := 0) (by omega)
    obtain ⟨M, hM⟩ : ∃ M, M = k + 1 := ⟨_, rfl⟩
    have hT := hI.tail (by omega)
    have hH := hI.head (k := M) (by omega)
    have C1 := Lib.hid (fun w' (hb : Below w.heap.size w w') => ih (L.drop 1) _ w' (by omega) (by rw [List.length_drop]; omega) (within_drop hw) ((hT.below hb).more hb.size))
    have C2 := Lib.hid (fun w' (hb : Below w.heap.size w w') => ih (L.take M) _ w' (by omega) (by rw [List.length_take]; omega) (within_take _ hw) ((hH.below hb).more hb.size))
    obtain ⟨m1, m2⟩ := rv_parts (u := (u : Int)) (d := (d : Int)) (by omega) (by omega) hl (by omega) hw
    have E := rv_succ u d k L
    rw [E]
    have z1 : L.length = M + 1 := by omega
    rw [← hM] at m2 ⊢
    rw [z1] at C1 h1 ⊢
    rw [show M + 1 - 1 = M from rfl] at C1
    generalize rvT u d k (L.drop 1) = x at *
    generalize rvT u d k (L.take M) = y at *
    have hM1 : 1 ≤ M := by omega
    have hM4 : M ≤ 4 := by omega
    clear h2 h3 h4 hI hT hH hc hw E z1 hl ih hb hM hk
    have W1 : IntKind.i64.wrap ((d : Int) * x) = (d : Int) * x := IntWalk.i64_in _ (by rw [Int.mul_comm]; omega)
    have W2 : IntKind.i64.wrap ((u : Int) * y) = (u : Int) * y := IntWalk.i64_in _ (by rw [Int.mul_comm]; omega)
    have W3 : IntKind.i64.wrap ((d : Int) * x + (u : Int) * y) = (d : Int) * x + (u : Int) * y := IntWalk.i64_in _ (by rw [Int.mul_comm (d : Int), Int.mul_comm (u : Int)]; omega)
    have b1 : -943839216 ≤ (d : Int) * x ∧ (d : Int) * x ≤ 943839216 := by rw [Int.mul_comm]; omega
    have b2 : -943839216 ≤ (u : Int) * y ∧ (u : Int) * y ≤ 943839216 := by rw [Int.mul_comm]; omega
    have CM : Hid (x * (d : Int) + y * (u : Int) = (d : Int) * x + (u : Int) * y) := Lib.hid (by rw [Int.mul_comm x, Int.mul_comm y])
    rw [CM.out]
    have HD := Lib.hid (below_drew (Below.refl w.heap.size w))
    have k1 : (1 : Int) ≤ (M : Int) + 1 := by omega
    have k3 : (M : Int) ≤ (c : Int) := by omega
    have k4 : (M : Int) + 1 ≤ (c : Int) := by omega
    have k5 : (0 : Int) ≤ (M : Int) := by omega
    have k6 : ¬ c = 1 := by omega
    have t1 : ((M : Int) + 1 == 1) = false := by simp; omega
    have t2 : ((M : Int) == 0) = false := by simp; omega
    have t3 : ¬ M = 0 := by omega
    have WM : IntKind.i64.wrap (M : Int) = (M : Int) := IntWalk.i64_in _ (by omega)
    clear m1 m2
    go_enter Try.func69, Try.ntmps69
    go_upto_region 3 with fail
    go_region_held3 (fun w' => True)
      (first | exact trivial)
      (first
        | (go_at_call 69; (with_reducible refine (C1.out _ HD.out).mono ?_); rintro e w7 ⟨rfl, b7⟩; (have HE7 : Hid (Below w.heap.size w w7) := Lib.hid (HD.out.trans (b7.mono HD.out.size))))
        | (go_at_call 69; (with_reducible refine (C2.out _ HE7.out).mono ?_); rintro e w8 ⟨rfl, b8⟩; (have HE8 : Hid (Below w.heap.size w w8) := Lib.hid (HE7.out.trans (b8.mono HE7.out.size)))))
    all_goals
      have FIN := Lib.hid HE8.out
      go_wp2_with fail
      go_ret
      exact ⟨rfl, FIN.out⟩
set_option maxRecDepth 100000 in
set_option maxHeartbeats 4000000 in
theorem rowValS (n u d : Int) (L : List Int) (v : Value) (w : World) (hn : L.length ≤ 1048576) (h : IntsV w w.heap.size v L) : Calls Try.prog 21 #[.int .i64 n, .int .i64 u, .int .i64 d, v] w (Gives (rvV n u d L) w) := by
  have RC := Lib.hid (fun w => rowS n u d w)
  have VC := Lib.hid (fun w' (hb : Below w.heap.size w w') => valsS L (n + 1) v w' hn ((h.below hb).more hb.size))
  have VO : Hid (valsOk n u d L = (rowOk n u d && (decide ((L.length : Int) = n + 1) && withinB 999 L))) := Lib.hid rfl
  have RV : Hid (rvV n u d L = if valsOk n u d L = true then keptV (cutN (rvT u d n.toNat L) (((u.toNat + d.toNat) ^ n.toNat : Nat) : Int)) (cutD (rvT u d n.toNat L) (((u.toNat + d.toNat) ^ n.toNat : Nat) : Int)) else zeroP) := Lib.hid rfl
  have HV := Lib.hid h
  obtain ⟨q, c, rfl, _⟩ := h
  have A1 := Lib.hid ((Below.refl w.heap.size w).alloc (Nat.le_refl _) (.cells #[.int .i64 0, .int .i64 0] 39))
  have A2 := Lib.hid (Below.refl (w.alloc (.cells #[.int .i64 0, .int .i64 0] 39)).heap.size (w.alloc (.cells #[.int .i64 0, .int .i64 0] 39)))
  cases hr : rowOk n u d
  · rw [hr, Bool.false_and] at VO
    rw [VO.out, if_neg (by decide)] at RV
    rw [hr] at RC
    rw [RV.out]
    unfold zeroP
    clear hr VO RV VC
    go_enter Try.func21, Try.ntmps21
    go_wp2_with fail
    refine (RC.out _).mono ?_
    rintro e w1 ⟨rfl, rfl⟩
    obtain ⟨⟨x0, y0⟩, x1, y1⟩ := res_cells A2.out
    go_wp2_with fail
    refine bodyPost_ret (v := .tuple #[.agg #[.int .i64 0, .int .i64 0], .bool false]) (by simp [results, Try.results21, go_sem, x0, x1]) rfl ⟨rfl, ?_⟩
    first | exact res_fin A2.out | exact A1.out
  · have hr2 := hr
    unfold rowOk at hr2
    rw [decide_eq_true_iff] at hr2
    obtain ⟨⟨n0, n1⟩, ⟨u0, u1⟩, d0, d1⟩ := hr2
    rw [hr, Bool.true_and] at VO
    rw [hr] at RC
    rw [← VO.out] at VC
    cases hk : valsOk n u d L
    · rw [hk] at VC RV
      rw [if_neg (by decide)] at RV
      rw [RV.out]
      unfold zeroP
      clear hr hk VO RV
      go_enter Try.func21, Try.ntmps21
      go_wp2_with fail
      refine (RC.out _).mono ?_
      rintro e w1 ⟨rfl, rfl⟩
      go_wp2_with fail
      refine (VC.out _ A1.out).mono ?_
      rintro e w2 ⟨rfl, b2⟩
      have B3 := Lib.hid (A2.out.trans (b2.mono A2.out.size))
      obtain ⟨⟨x0, y0⟩, x1, y1⟩ := res_cells B3.out
      clear b2
      go_wp2_with fail
      refine bodyPost_ret (v := .tuple #[.agg #[.int .i64 0, .int .i64 0], .bool false]) (by simp [results, Try.results21, go_sem, x0, x1]) rfl ⟨rfl, ?_⟩
      exact res_fin B3.out
    · have hk2 := hk
      unfold valsOk at hk2
      rw [Bool.and_eq_true, Bool.and_eq_true, decide_eq_true_iff] at hk2
      obtain ⟨_, hl, hw⟩ := hk2
      obtain ⟨N, U, D, rfl, rfl, rfl, hN, hU, hD⟩ := row_mk hr
      rw [hk] at VC RV
      rw [if_pos rfl] at RV
      rw [RV.out]
      simp only [Int.toNat_natCast]
      have TC := Lib.hid (fun w' (hb : Below w.heap.size w w') => vtS U D hU hD N L _ w' hN (by omega) hw ((HV.out.below hb).more hb.size))
      have PC := Lib.hid (fun w => pow6S (U + D) N w (by omega) hN)
      rw [Int.natCast_add] at PC
      have sm := rv_small (u := (U : Int)) (d := (D : Int)) (by omega) (by omega) (show L.length = N + 1 by omega) hN hw
      have pb := pow18 (b := U + D) (k := N) (by omega) hN
      have pp := pow_pos1 (b := U + D) N (by omega)
      have CC := Lib.hid (fun w => cutS (rvT U D N L) (((U + D) ^ N : Nat) : Int) w (by omega) (by omega))
      have KC := Lib.hid (fun w => keptS_cut (a := rvT U D N L) (b := (((U + D) ^ N : Nat) : Int)) w (by omega))
      obtain ⟨p, q', okk, hK⟩ := keptV_form (cutN (rvT U D N L) (((U + D) ^ N : Nat) : Int)) (cutD (rvT U D N L) (((U + D) ^ N : Nat) : Int))
      rw [hK] at KC ⊢
      generalize cutN (rvT U D N L) (((U + D) ^ N : Nat) : Int) = P at *
      generalize cutD (rvT U D N L) (((U + D) ^ N : Nat) : Int) = Q at *
      generalize rvT U D N L = X at *
      generalize (U + D) ^ N = Y at *
      clear hk VO RV hr hl hw hU hD sm pb pp hK
      go_enter Try.func21, Try.ntmps21
      go_wp2_with fail
      refine (RC.out _).mono ?_
      rintro e w1 ⟨rfl, rfl⟩
      go_wp2_with fail
      refine (VC.out _ A1.out).mono ?_
      rintro e w2 ⟨rfl, b2⟩
      have B2 := Lib.hid (A2.out.trans (b2.mono A2.out.size))
      have H2 := Lib.hid (A1.out.trans (B2.out.mono A1.out.size))
      clear b2
      go_wp2_with fail
      refine (TC.out _ H2.out).mono ?_
      rintro e w3 ⟨rfl, b3⟩
      have B3 := Lib.hid (B2.out.trans (b3.mono B2.out.size))
      clear b3
      go_wp2_with fail
      refine (PC.out _).mono ?_
      rintro e w4 ⟨rfl, rfl⟩
      go_wp2_with fail
      refine (CC.out _).mono ?_
      rintro e w5 ⟨rfl, b5⟩
      have B5 := Lib.hid (B3.out.trans (b5.mono B3.out.size))
      clear b5
      go_wp2_with fail
      refine (KC.out _).mono ?_
      rintro e w6 ⟨rfl, b6⟩
      have B6 := Lib.hid (B5.out.trans (b6.mono B5.out.size))
      clear b6
      obtain ⟨⟨x0, y0⟩, x1, y1⟩ := res_cells B6.out
      go_wp2_with fail
      refine bodyPost_ret (v := .tuple #[.agg #[.int .i64 p, .int .i64 q'], .bool okk]) (by simp [results, Try.results21, go_sem, x0, x1]) rfl ⟨rfl, ?_⟩
      exact res_fin B6.out
end Go.Proofs.Ytamneibnjbimeab
