/- RankMean in the model. -/
import Derived.Test.YtnpiciabpgkiiabRnkP
import Derived.Test.YtnpiciabpgkiiabRes
import Derived.Test.YtnpiciabpgkiiabInS
import Derived.Test.YtnpiciabpgkiiabFracU
import Derived.Test.YtnpiciabpgkiiabFracW
import Derived.Deep.RegionHeld3
import Derived.Deep.LoopGhost
import Derived.Deep.DeepCutAuto
namespace Go.Proofs.Ytnpiciabpgkiiab
open Go.RowKit
set_option linter.unusedVariables false
/-- What RankMean returns. -/
def rkV (n : Int) : Value := if 1 ≤ n ∧ n ≤ 10 then .tuple #[.agg #[.int .i64 (rkN n.toNat 0).1, .int .i64 (rkN n.toNat 0).2], .bool true] else .tuple #[.agg #[.int .i64 0, .int .i64 0], .bool false]
theorem rkV_form (n : Int) : ∃ p q ok, rkV n = .tuple #[.agg #[.int .i64 p, .int .i64 q], .bool ok] := by
  unfold rkV; split <;> exact ⟨_, _, _, rfl⟩
theorem peopleR (n : Int) (w : World) : Calls Try.prog 60 #[.int .i64 n] w fun e w' => e = .returned (.bool (decide (1 ≤ n ∧ n ≤ 10))) ∧ w = w' := by
  have I := Lib.hid (fun w => inS n 1 10 w)
  generalize decide (1 ≤ n ∧ n ≤ 10) = bb at *
  go_enter Try.func60, Try.ntmps60
  go_wp2_with fail
  refine (I.out _).mono ?_
  rintro e w1 ⟨rfl, rfl⟩
  go_wp2_with fail
  go_ret
  exact ⟨rfl, rfl⟩
theorem rk_bd {n d : Int} (h : isFr n d = true) : (-1000000000 ≤ n ∧ n ≤ 1000000000) ∧ (1 ≤ d ∧ d ≤ 1000000) := by
  have := ((isFr_iff n d).1 h).1
  omega
theorem rkAdd {n k j : Nat} (hn : n < 11) (hk : k < n) (h1 : 1 ≤ k) (hj : j < k) (w : World) : Calls Try.prog 63 #[.agg #[.int .i64 (rkS n k j).1, .int .i64 (rkS n k j).2], .agg #[.int .i64 (rkC n k j).1, .int .i64 (rkC n k j).2]] w (Gives (.agg #[.int .i64 (rkS n k (j + 1)).1, .int .i64 (rkS n k (j + 1)).2]) w) := by
  have a := rk_bd (rk6 n hn k hk h1 j (by omega))
  have hC : isFr (rkC n k j).1 (rkC n k j).2 = true := by
    unfold rkC; split
    · exact rk5 n hn k hk
    · exact rk7 n hn k hk h1 j hj
  have c := rk_bd hC
  have A := addS (rkS n k j).1 (rkS n k j).2 (rkC n k j).1 (rkC n k j).2 w a.1 a.2 c.1 c.2
  rw [← rk3 n hn k hk h1 j hj]
  exact A
theorem rkTimes {n k : Nat} (hn : n < 11) (hk : k < n) (h1 : 1 ≤ k) (w : World) : Calls Try.prog 55 #[.agg #[.int .i64 (rkS n k k).1, .int .i64 (rkS n k k).2], .agg #[.int .i64 1, .int .i64 k]] w (Gives (.agg #[.int .i64 (rkN n (k - 1)).1, .int .i64 (rkN n (k - 1)).2]) w) := by
  have f := rk6 n hn k hk h1 k (by omega)
  have a := rk_bd f
  have A := timesS (rkS n k k).1 (rkS n k k).2 1 (k : Int) w a.1 a.2 (by omega) (by omega) ((isFr_iff _ _).1 f).2 (by unfold gI; simp)
  rw [← rk4 n hn k hk h1]
  exact A
set_option maxRecDepth 100000 in
set_option maxHeartbeats 4000000 in
theorem rankS (n : Int) (w : World) : Calls Try.prog 30 #[.int .i64 n] w (Gives (rkV n) w) := by
  have F := Lib.hid (fun w => peopleR n w)
  have B0 := Lib.hid (bl_self w (.cells #[.int .i64 0, .int .i64 0] 32))
  have RC := Lib.hid (fun w3 b => rs_cells (w := w) (w3 := w3) b)
  have RF := Lib.hid (fun w3 x y b => rs_fin (w := w) (w3 := w3) (x := x) (y := y) b)
  by_cases h : 1 ≤ n ∧ n ≤ 10
  · rw [decide_eq_true h] at F
    obtain ⟨N, rfl⟩ : ∃ N : Nat, n = N := ⟨n.toNat, by omega⟩
    have hN : N < 11 := by omega
    have hN1 : 1 ≤ N := by omega
    have iN : (N : Int) ≤ 10 := h.2
    have iN1 : 1 ≤ (N : Int) := h.1
    rw [show rkV N = .tuple #[.agg #[.int .i64 (rkN N 0).1, .int .i64 (rkN N 0).2], .bool true] from if_pos h]
    have CU := Lib.hid (fun w => show Calls Try.prog 62 #[.int .i64 ((N : Int) + 1), .int .i64 2] w (Gives (.agg #[.int .i64 (rkN N (N - 1)).1, .int .i64 (rkN N (N - 1)).2]) w) from by
      rw [← rk1 N hN hN1]; exact cutS _ _ w (by omega) (by omega))
    have CT := Lib.hid (fun k j (hk : k < N) (hj : j < k) w => show Calls Try.prog 62 #[.int .i64 (((N : Int) + 1) * ((j : Int) + 1)), .int .i64 ((k : Int) + 1)] w (Gives (.agg #[.int .i64 (rkT N k j).1, .int .i64 (rkT N k j).2]) w) from by
      have e1 : ((N : Int) + 1) * ((j : Int) + 1) ≤ 11 * 11 := Int.mul_le_mul (by omega) (by omega) (by omega) (by omega)
      have e2 : 0 ≤ ((N : Int) + 1) * ((j : Int) + 1) := Int.mul_nonneg (by omega) (by omega)
      exact cutS _ _ w (by omega) (by omega))
    have LT := Lib.hid (fun k j (hk : k < N) (h1 : 1 ≤ k) (hj : j < k) w => show Calls Try.prog 58 #[.agg #[.int .i64 (rkN N k).1, .int .i64 (rkN N k).2], .agg #[.int .i64 (rkT N k j).1, .int .i64 (rkT N k j).2]] w (Gives (.bool (decide ((rkN N k).1 * (rkT N k j).2 < (rkT N k j).1 * (rkN N k).2))) w) from by
      have a := rk_bd (rk5 N hN k hk)
      have c := rk_bd (rk7 N hN k hk h1 j hj)
      exact lessS _ _ _ _ w a.1 a.2 c.1 c.2)
    have AD := Lib.hid (fun k j (hk : k < N) (h1 : 1 ≤ k) (hj : j < k) w => rkAdd hN hk h1 hj w)
    have TM := Lib.hid (fun k (hk : k < N) (h1 : 1 ≤ k) w => rkTimes hN hk h1 w)
    have Z0 := Lib.hid (fun k (hk : k < N) (h1 : 1 ≤ k) => rk2 N hN k hk h1)
    have KP := Lib.hid (fun w => keptS_yes (rkN N 0).1 (rkN N 0).2 w (rk5 N hN 0 (by omega)))
    have W9 := Lib.hid (fun (k j : Nat) (hk : k < N) (hj : j < k) => show IntKind.i64.wrap (((N : Int) + 1) * ((j : Int) + 1)) = ((N : Int) + 1) * ((j : Int) + 1) from by
      have e1 : ((N : Int) + 1) * ((j : Int) + 1) ≤ 11 * 11 := Int.mul_le_mul (by omega) (by omega) (by omega) (by omega)
      have e2 : 0 ≤ ((N : Int) + 1) * ((j : Int) + 1) := Int.mul_nonneg (by omega) (by omega)
      exact IntWalk.i64_in _ (by omega))
    clear h
    obtain ⟨wa, hwa⟩ : ∃ wa, wa = w.alloc (.cells #[.int .i64 0, .int .i64 0] 32) := ⟨_, rfl⟩
    rw [← hwa] at B0 RC RF
    have SZ : wa.heap.size = w.heap.size + 1 := by rw [hwa]; simp
    go_enter Try.func30, Try.ntmps30
    go_wp2_with fail
    rw [← hwa]
    clear hwa
    refine (F.out _).mono ?_
    rintro e w1 ⟨rfl, rfl⟩
    go_wp2_with fail
    refine (CU.out _).mono ?_
    rintro e w2 ⟨rfl, b2⟩
    have B2 := Lib.hid (B0.out.trans (b2.mono B0.out.size))
    have hs2 := b2.size
    have QN := Lib.hid (QBox.new w2 (rkN N (N - 1)).1 (rkN N (N - 1)).2)
    have BN := Lib.hid (B2.out.alloc B2.out.size (.cells #[.int .i64 (rkN N (N - 1)).1, .int .i64 (rkN N (N - 1)).2] 32))
    clear b2
    have iN2 : (N : Int) - 1 = ((N - 1 : Nat) : Int) := by omega
    go_wp2_with fail
    obtain ⟨gN, hgN⟩ : ∃ gN, gN = w2.heap.size := ⟨_, rfl⟩
    rw [← hgN] at QN ⊢
    have hg1 : w.heap.size + 1 ≤ gN := by omega
    clear hgN hs2
    go_loopg [5] N (fun gg i wr => ∃ k : Nat, k < N ∧ k ≤ gg ∧ i = .int .i64 k ∧ Hid (QBox wr gN (rkN N k).1 (rkN N k).2) ∧ Hid (Below wa.heap.size wa wr))
    case atStart => exact ⟨N - 1, by omega, by omega, rfl, QN, BN⟩
    case round =>
      clear QN BN B2
      obtain ⟨k, hkN, hgg, rfl, HN, HB⟩ := hrel
      obtain ⟨wq, rfl⟩ : ∃ wq : World, wq = wr := ⟨_, rfl⟩
      by_cases hk : 1 ≤ k
      · have i1 : 1 ≤ (k : Int) := by omega
        have i2 : (k : Int) < (N : Int) := by omega
        have hgl := HN.out.lt
        have HS0 := Lib.hid (QBox.new wq 0 1)
        have HN0 := Lib.hid (HN.out.below ((Below.refl wq.heap.size wq).alloc (Nat.le_refl _) (.cells #[.int .i64 0, .int .i64 1] 32)) hgl)
        have HB0 := Lib.hid (HB.out.alloc HB.out.size (.cells #[.int .i64 0, .int .i64 1] 32))
        have z0 := Lib.hid (Z0.out k hkN hk)
        go_wp2_with fail
        obtain ⟨gS, hgS⟩ : ∃ gS, gS = wq.heap.size := ⟨_, rfl⟩
        rw [← hgS] at HS0 hgl ⊢
        have hgS1 : w.heap.size + 1 ≤ gS := by have := HB.out.size; omega
        clear hgS
        go_loopg [7] k (fun gg i wr => ∃ j : Nat, j ≤ k ∧ k - j ≤ gg ∧ i = .int .i64 ((j : Int) + 1) ∧ Hid (QBox wr gN (rkN N k).1 (rkN N k).2) ∧ Hid (QBox wr gS (rkS N k j).1 (rkS N k j).2) ∧ Hid (Below wa.heap.size wa wr))
        case atStart => exact ⟨0, by omega, by omega, rfl, HN0, by rw [z0.out]; exact HS0, HB0⟩
        case round =>
          clear HN0 HS0 HB0 HN HB
          obtain ⟨j, hj, hgg2, rfl, HN, HS, HB⟩ := hrel
          by_cases hlt : j < k
          · have i3 : (j : Int) + 1 ≤ (k : Int) := by omega
            have i4 : 0 ≤ (j : Int) := by omega
            have W1 := W9.out k j hkN hlt
            have CTx := Lib.hid (CT.out k j hkN hlt)
            have LTx := Lib.hid (LT.out k j hkN hk hlt)
            have ADx := Lib.hid (AD.out k j hkN hk hlt)
            unfold rkC at ADx
            go_wp2_with fail
            refine (CTx.out _).mono ?_
            rintro e w4 ⟨rfl, b4⟩
            obtain ⟨w5, hw5⟩ : ∃ w5, w5 = w4.alloc (.cells #[.int .i64 (rkT N k j).1, .int .i64 (rkT N k j).2] 32) := ⟨_, rfl⟩
            have b5 : Below wr.heap.size wr w5 := by rw [hw5]; exact b4.alloc b4.size _
            have HT5 := Lib.hid (show QBox w5 w4.heap.size (rkT N k j).1 (rkT N k j).2 by rw [hw5]; exact QBox.new _ _ _)
            have HN5 := Lib.hid (HN.out.below b5 HN.out.lt)
            have HS5 := Lib.hid (HS.out.below b5 HS.out.lt)
            have HB5 := Lib.hid (HB.out.trans (b5.mono HB.out.size))
            have q1 : gN ≠ w4.heap.size := by have := HN.out.lt; have := b4.size; omega
            have q2 : gS ≠ w4.heap.size := by have := HS.out.lt; have := b4.size; omega
            have q3 : wa.heap.size ≤ w4.heap.size := by have := HB.out.size; have := b4.size; omega
            clear b4 b5 HN HS HB
            go_upto_region 12 with fail
            rw [← hw5]
            clear hw5
            obtain ⟨⟨n0, n1⟩, _, _⟩ := HN5.out.cells
            obtain ⟨⟨t0, t1⟩, _, _⟩ := HT5.out.cells
            go_wp2_with fail
            refine (LTx.out _).mono ?_
            rintro e w6 ⟨rfl, b6⟩
            have HT6 := Lib.hid (HT5.out.below b6 HT5.out.lt)
            have HN6 := Lib.hid (HN5.out.below b6 HN5.out.lt)
            have HS6 := Lib.hid (HS5.out.below b6 HS5.out.lt)
            have HB6 := Lib.hid (HB5.out.trans (b6.mono HB5.out.size))
            clear b6 n0 n1 t0 t1 HT5 HN5 HS5 HB5
            obtain ⟨⟨n0, n1⟩, _, _⟩ := HN6.out.cells
            obtain ⟨⟨t0, t1⟩, f0, f1⟩ := HT6.out.cells
            obtain ⟨⟨s0, s1⟩, g0, g1⟩ := HS6.out.cells
            by_cases hc : (rkN N k).1 * (rkT N k j).2 < (rkT N k j).1 * (rkN N k).2
            · rw [if_pos hc] at ADx
              rw [decide_eq_true hc]
              clear hc
              have HN7 := Lib.hid ((HN6.out.far (o := 0) (x := .int .i64 (rkN N k).1) q1).far (o := 1) (x := .int .i64 (rkN N k).2) q1)
              have HS7 := Lib.hid ((HS6.out.far (o := 0) (x := .int .i64 (rkN N k).1) q2).far (o := 1) (x := .int .i64 (rkN N k).2) q2)
              have HT7 := Lib.hid (HT6.out.st (rkN N k).1 (rkN N k).2)
              have HB7 := Lib.hid (bl_st HB6.out q3 (.int .i64 (rkN N k).1) (.int .i64 (rkN N k).2))
              go_upto_region 14 with fail
              obtain ⟨w7, hw7⟩ : ∃ w7, w7 = ((w6.setCell ⟨w4.heap.size, 0, none⟩ (.int .i64 (rkN N k).1)).setCell ⟨w4.heap.size, 1, none⟩ (.int .i64 (rkN N k).2)) := ⟨_, rfl⟩
              rw [← hw7] at HN7 HS7 HT7 HB7 ⊢
              clear hw7 n0 n1 t0 t1 f0 f1 s0 s1 g0 g1 HN6 HS6 HT6 HB6
              obtain ⟨⟨t0, t1⟩, _, _⟩ := HT7.out.cells
              obtain ⟨⟨s0, s1⟩, _, _⟩ := HS7.out.cells
              go_wp2_with fail
              refine (ADx.out _).mono ?_
              rintro e w8 ⟨rfl, b8⟩
              have HN8 := Lib.hid (HN7.out.below b8 HN7.out.lt)
              have HS8 := Lib.hid (HS7.out.below b8 HS7.out.lt)
              have HB8 := Lib.hid (HB7.out.trans (b8.mono HB7.out.size))
              have qNS : gN ≠ gS := by omega
              clear b8 t0 t1 s0 s1
              obtain ⟨⟨s0, s1⟩, g0, g1⟩ := HS8.out.cells
              go_wp2_with fail
              go_roundg (k - (j + 1))
              case rel => exact ⟨j + 1, by omega, by omega, by go_num, Lib.hid ((HN8.out.far qNS).far qNS), Lib.hid (HS8.out.st _ _), Lib.hid (bl_st HB8.out (by omega) _ _)⟩
              case measure => omega
            · rw [if_neg hc] at ADx
              rw [decide_eq_false hc]
              clear hc
              obtain ⟨w7, rfl⟩ : ∃ w7 : World, w7 = w6 := ⟨_, rfl⟩
              have HN7 := HN6
              have HS7 := HS6
              have HT7 := HT6
              have HB7 := HB6
              clear n0 n1 t0 t1 f0 f1 s0 s1 g0 g1 HN6 HS6 HT6 HB6
              go_upto_region 14 with fail
              obtain ⟨⟨t0, t1⟩, _, _⟩ := HT7.out.cells
              obtain ⟨⟨s0, s1⟩, _, _⟩ := HS7.out.cells
              go_wp2_with fail
              refine (ADx.out _).mono ?_
              rintro e w8 ⟨rfl, b8⟩
              have HN8 := Lib.hid (HN7.out.below b8 HN7.out.lt)
              have HS8 := Lib.hid (HS7.out.below b8 HS7.out.lt)
              have HB8 := Lib.hid (HB7.out.trans (b8.mono HB7.out.size))
              have qNS : gN ≠ gS := by omega
              clear b8 t0 t1 s0 s1
              obtain ⟨⟨s0, s1⟩, g0, g1⟩ := HS8.out.cells
              go_wp2_with fail
              go_roundg (k - (j + 1))
              case rel => exact ⟨j + 1, by omega, by omega, by go_num, Lib.hid ((HN8.out.far qNS).far qNS), Lib.hid (HS8.out.st _ _), Lib.hid (bl_st HB8.out (by omega) _ _)⟩
              case measure => omega
          · have hjk : j = k := by omega
            have i3 : ¬ (j : Int) + 1 ≤ (k : Int) := by omega
            rw [hjk] at HS
            have TMx := Lib.hid (TM.out k hkN hk)
            have gSN : gN ≠ gS := by omega
            obtain ⟨⟨s0, s1⟩, _, _⟩ := HS.out.cells
            go_wp2_with fail
            refine (TMx.out _).mono ?_
            rintro e w4 ⟨rfl, b4⟩
            have HN4 := Lib.hid (HN.out.below b4 HN.out.lt)
            have HB4 := Lib.hid (HB.out.trans (b4.mono HB.out.size))
            obtain ⟨⟨n0, n1⟩, f0, f1⟩ := HN4.out.cells
            have ik : (k : Int) - 1 = ((k - 1 : Nat) : Int) := by omega
            clear b4 s0 s1
            go_wp2_with fail
            go_roundg (k - 1)
            case rel => exact ⟨k - 1, by omega, by omega, by first | rfl | go_num, Lib.hid (HN4.out.st _ _), Lib.hid (bl_st HB4.out (by omega) _ _)⟩
            case measure => omega
      · have hk0 : k = 0 := by omega
        subst hk0
        obtain ⟨⟨n0, n1⟩, _, _⟩ := HN.out.cells
        go_wp2_with fail
        refine (KP.out _).mono ?_
        rintro e w4 ⟨rfl, b4⟩
        have HB4 := Lib.hid (HB.out.trans (b4.mono HB.out.size))
        obtain ⟨⟨x0, y0⟩, x1, y1⟩ := RC.out _ HB4.out
        go_wp2_with fail
        refine bodyPost_ret (v := .tuple #[.agg #[.int .i64 (rkN N 0).1, .int .i64 (rkN N 0).2], .bool true]) (by simp [results, Try.results30, go_sem, x0, x1]) rfl ⟨rfl, ?_⟩
        exact RF.out _ _ _ HB4.out
  · rw [decide_eq_false h] at F
    rw [show rkV n = .tuple #[.agg #[.int .i64 0, .int .i64 0], .bool false] from if_neg h]
    clear h
    go_enter Try.func30, Try.ntmps30
    go_wp2_with fail
    refine (F.out _).mono ?_
    rintro e w1 ⟨rfl, rfl⟩
    go_wp2_with fail
    refine bodyPost_ret (v := .tuple #[.agg #[.int .i64 0, .int .i64 0], .bool false]) (by simp [results, Try.results30, go_sem]) rfl ⟨rfl, ?_⟩
    first | exact RF.out _ _ _ B0.out | exact (Below.refl w.heap.size w).alloc (Nat.le_refl _) _
end Go.Proofs.Ytnpiciabpgkiiab
