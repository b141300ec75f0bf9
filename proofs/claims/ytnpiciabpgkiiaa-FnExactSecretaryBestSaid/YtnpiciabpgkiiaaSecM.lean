/- The chances of rules for people, in the model. -/
import Derived.Test.YtnpiciabpgkiiaaSecI
import Derived.Test.YtnpiciabpgkiiaaFracU
import Derived.Test.YtnpiciabpgkiiaaFracW
import Derived.Deep.RegionHeld3
namespace Go.Proofs.Ytnpiciabpgkiiaa
open Go.RowKit
set_option linter.unusedVariables false
theorem hm_cut {r j : Nat} (hr : 1 ≤ r) (h : r + j + 1 ≤ 10) (w : World) :
    Calls Try.prog 80 #[.agg #[.int .i64 (hmP r j).1, .int .i64 (hmP r j).2], .agg #[.int .i64 1, .int .i64 ((r + j : Nat) : Int)]] w (Gives (.agg #[.int .i64 (hmP r (j + 1)).1, .int .i64 (hmP r (j + 1)).2]) w) := by
  have a := hm_ok2 r (by omega) j (by omega) hr (by omega)
  have b := hm_ok3 r (by omega) j (by omega) hr (by omega)
  exact addS _ _ _ _ w (by omega) (by omega) (by omega) (by omega)
set_option maxRecDepth 100000 in
set_option maxHeartbeats 2000000 in
theorem chanceSS (N R : Nat) (w : World) (hN : N ≤ 10) (hRN : R < N) : Calls Try.prog 60 #[.int .i64 N, .int .i64 R] w (Gives (.agg #[.int .i64 (scN N R), .int .i64 (scD N R)]) w) := by
  have B0 := Lib.hid (bl_self w (.cells #[.int .i64 0, .int .i64 0] 26))
  have RC := Lib.hid (fun w3 b => rs_cells (w := w) (w3 := w3) b)
  have RF := Lib.hid (fun w3 x y b => rs_fin (w := w) (w3 := w3) (x := x) (y := y) b)
  by_cases hr0 : R = 0
  · subst hr0
    rw [show scN N 0 = 1 from if_pos rfl, show scD N 0 = N from if_pos rfl]
    obtain ⟨wa, hwa⟩ : ∃ wa, wa = w.alloc (.cells #[.int .i64 0, .int .i64 0] 26) := ⟨_, rfl⟩
    rw [← hwa] at B0 RC RF
    obtain ⟨⟨x0, y0⟩, x1, y1⟩ := RC.out _ B0.out
    go_enter Try.func60, Try.ntmps60
    go_wp2_with fail
    first
      | (rw [← hwa]; clear hwa; go_wp2_with fail; refine bodyPost_ret (v := .agg #[.int .i64 1, .int .i64 N]) (by simp [results, Try.results60, go_sem, x0, x1]) rfl ⟨rfl, ?_⟩; exact RF.out _ _ _ B0.out)
      | (refine bodyPost_ret (v := .agg #[.int .i64 1, .int .i64 N]) (by simp [results, Try.results60, go_sem]) rfl ⟨rfl, ?_⟩; exact (Below.refl w.heap.size w).alloc (Nat.le_refl _) _)
  · have hr1 : 1 ≤ R := by omega
    have hb := hm_ok2 R (by omega) (N - R) (by omega) hr1 (by omega)
    have hd := hm_ok3 R (by omega) (N - R) (by omega) hr1 (by omega)
    have hf := ((isFr_iff _ _).1 (hm_ok1 R (by omega) (N - R) (by omega) hr1 (by omega))).2
    have r1 := sc_rn1 N (by omega) R (by omega) hr1 hRN
    have r2 := sc_rn2 N (by omega) R (by omega) hr1 hRN
    have r3 := sc_rn3 N (by omega) R (by omega) hr1 hRN
    have st := sc_times N (by omega) R (by omega) hr1 hRN
    have CU := Lib.hid (fun w => cutS (R : Int) (N : Int) w (by omega) (by omega))
    have TM := Lib.hid (fun w => timesS (hmP R (N - R)).1 (hmP R (N - R)).2 (cutN (R : Int) (N : Int)) (cutD (R : Int) (N : Int)) w (by omega) (by omega) (by omega) (by omega) hf r1)
    rw [st.1, st.2] at TM
    have AD := Lib.hid (fun k (hk : k < N) (hk2 : R ≤ k) (w : World) => show Calls Try.prog 80 #[.agg #[.int .i64 (hmP R (k - R)).1, .int .i64 (hmP R (k - R)).2], .agg #[.int .i64 1, .int .i64 (k : Int)]] w (Gives (.agg #[.int .i64 (hmP R (k + 1 - R)).1, .int .i64 (hmP R (k + 1 - R)).2]) w) from by
      have := hm_cut (r := R) (j := k - R) hr1 (by omega) w
      rw [show R + (k - R) = k by omega, show k - R + 1 = k + 1 - R by omega] at this
      exact this)
    have Q0 : Hid ((hmP R (R - R)).1 = 0 ∧ (hmP R (R - R)).2 = 1) := Lib.hid (by rw [Nat.sub_self]; exact ⟨rfl, rfl⟩)
    generalize scN N R = SN at *
    generalize scD N R = SD at *
    generalize cutN (R : Int) (N : Int) = CN at *
    generalize cutD (R : Int) (N : Int) = CD at *
    obtain ⟨H, hH⟩ : ∃ H : Nat → Int × Int, H = fun k => hmP R (k - R) := ⟨_, rfl⟩
    have hH2 : ∀ k, hmP R (k - R) = H k := fun k => by rw [hH]
    simp only [hH2] at AD Q0 TM
    have zR : ((R : Int) == 0) = false := by simp; omega
    clear hH hH2 hb hd hf r1 r2 r3 st hr0
    obtain ⟨wa, hwa⟩ : ∃ wa, wa = w.alloc (.cells #[.int .i64 0, .int .i64 0] 26) := ⟨_, rfl⟩
    rw [← hwa] at B0 RC RF
    have GT := Lib.hid (show wa.heap.size = w.heap.size + 1 by rw [hwa]; simp)
    have QN := QBox.new wa 0 1
    rw [GT.out] at QN
    have QN := Lib.hid QN
    have BN := Lib.hid ((Below.refl wa.heap.size wa).alloc (Nat.le_refl _) (.cells #[.int .i64 0, .int .i64 1] 26))
    go_enter Try.func60, Try.ntmps60
    go_wp2_with fail
    rw [← hwa]
    clear hwa
    go_wp2_with fail
    go_loopg [6] N (fun gg i wr => ∃ k : Nat, R ≤ k ∧ k ≤ N ∧ N - k ≤ gg ∧ i = .int .i64 k ∧ Hid (QBox wr (w.heap.size + 1) (H k).1 (H k).2) ∧ Hid (Below wa.heap.size wa wr))
    case atStart => exact ⟨R, Nat.le_refl _, by omega, by omega, rfl, by rw [Q0.out.1, Q0.out.2]; exact QN, BN⟩
    case round =>
      clear QN BN
      obtain ⟨k, hk0, hk, hgg, rfl, HQ, HB⟩ := hrel
      obtain ⟨⟨x0, x1⟩, y0, y1⟩ := HQ.out.cells
      by_cases hlt : k < N
      · have i1 : (k : Int) < (N : Int) := by omega
        have A1 := Lib.hid (AD.out k hlt hk0)
        have HQ0 := Lib.hid HQ.out
        obtain ⟨a, ha⟩ : ∃ a, a = H k := ⟨_, rfl⟩
        obtain ⟨b, hb2⟩ : ∃ b, b = H (k + 1) := ⟨_, rfl⟩
        have HB2 := Lib.hid hb2
        rw [← ha] at A1 x0 x1 HQ0
        rw [← hb2] at A1
        clear ha hb2 HQ
        go_wp2_with fail
        refine (A1.out _).mono ?_
        rintro e w2 ⟨rfl, b2⟩
        have s2 := b2.size
        have hlt2 := HQ0.out.lt
        have HQ1 := Lib.hid (HQ0.out.below b2 hlt2)
        obtain ⟨⟨z0, z1⟩, t0, t1⟩ := HQ1.out.cells
        have HB1 := Lib.hid (bl_then HB.out b2)
        clear b2 x0 x1 y0 y1 HB HQ0
        go_wp2_with fail
        go_roundg (N - (k + 1))
        case rel => exact ⟨k + 1, by omega, by omega, by omega, by go_num, by rw [← HB2.out]; exact Lib.hid (HQ1.out.st _ _), Lib.hid (bl_st HB1.out (Nat.le_of_eq GT.out) _ _)⟩
        case measure => omega
      · have hkN : k = N := by omega
        rw [hkN] at x0 x1 HQ
        have i1 : ¬ (k : Int) < (N : Int) := by omega
        have hgR : w.heap.size + 1 ≠ w.heap.size := by omega
        obtain ⟨a, ha⟩ : ∃ a, a = H N := ⟨_, rfl⟩
        rw [← ha] at x0 x1 HQ TM
        clear hkN ha y0 y1
        go_wp2_with fail
        go_region_held3 (fun w' => w'.cell? ⟨w.heap.size + 1, 0, none⟩ = some (.int .i64 a.1) ∧ w'.cell? ⟨w.heap.size + 1, 1, none⟩ = some (.int .i64 a.2))
          (first | exact ⟨x0, x1⟩ | exact ⟨z0, z1⟩ | exact ⟨u0, u1⟩ | exact ⟨(far_2 hgR).trans u0, (far_2 hgR).trans u1⟩ | go_keep)
          (first
            | (go_at_call 75; (with_reducible refine (CU.out _).mono ?_); rintro e w8 ⟨rfl, b8⟩; (have hb8 := un_drew b8); (have HB8 := Lib.hid (bl_then HB.out hb8)); (have HQ8 := Lib.hid (HQ.out.below hb8 HQ.out.lt)); (obtain ⟨⟨z0, z1⟩, _, _⟩ := HQ8.out.cells); clear b8 hb8)
            | (go_at_call 81; (with_reducible refine (TM.out _).mono ?_); rintro e w9 ⟨rfl, b9⟩; (have HB9 := Lib.hid (bl_then B0.out (bl_then HB8.out b9))); (have HQ9 := Lib.hid (HQ8.out.below b9 HQ8.out.lt)); (obtain ⟨⟨u0, u1⟩, _, _⟩ := HQ9.out.cells); (obtain ⟨⟨c0, f0⟩, c1, f1⟩ := RC.out _ HB9.out); clear b9))
        all_goals
          go_wp2_with fail
          refine bodyPost_ret (v := .agg #[.int .i64 SN, .int .i64 SD]) (by simp [results, Try.results60, go_sem, *]) rfl ⟨rfl, ?_⟩
          exact RF.out _ _ _ HB9.out
theorem peopleS (n : Int) (w : World) : Calls Try.prog 58 #[.int .i64 n] w fun e w' => e = .returned (.bool (decide (1 ≤ n ∧ n ≤ 10))) ∧ w = w' := by
  have I := Lib.hid (fun w => inS n 1 10 w)
  generalize decide (1 ≤ n ∧ n ≤ 10) = bb at *
  go_enter Try.func58, Try.ntmps58
  go_wp2_with fail
  refine (I.out _).mono ?_
  rintro e w1 ⟨rfl, rfl⟩
  go_wp2_with fail
  go_ret
  exact ⟨rfl, rfl⟩
set_option maxRecDepth 100000 in
set_option maxHeartbeats 2000000 in
theorem secChS (n r : Int) (w : World) : Calls Try.prog 29 #[.int .i64 n, .int .i64 r] w (Gives (scV n r) w) := by
  have F := Lib.hid (fun w => peopleS n w)
  have G := Lib.hid (fun w => inS r 0 (n - 1) w)
  have B0 := Lib.hid (bl_self w (.cells #[.int .i64 0, .int .i64 0] 26))
  have RC := Lib.hid (fun w3 b => rs_cells (w := w) (w3 := w3) b)
  have RF := Lib.hid (fun w3 x y b => rs_fin (w := w) (w3 := w3) (x := x) (y := y) b)
  by_cases h1 : 1 ≤ n ∧ n ≤ 10
  · rw [decide_eq_true h1] at F
    obtain ⟨h1a, h1b⟩ := h1
    by_cases h2 : 0 ≤ r ∧ r ≤ n - 1
    · rw [decide_eq_true h2] at G
      obtain ⟨N, rfl⟩ : ∃ N : Nat, n = N := ⟨n.toNat, by omega⟩
      obtain ⟨R, rfl⟩ : ∃ R : Nat, r = R := ⟨r.toNat, by omega⟩
      have hRN : R < N := by omega
      have hN : N < 11 := by omega
      rw [show scV N R = .tuple #[.agg #[.int .i64 (scN N R), .int .i64 (scD N R)], .bool true] from if_pos (by unfold secOk; rw [decide_eq_true ⟨h1a, h1b⟩, decide_eq_true h2]; rfl)]
      obtain ⟨so1, so2, so3⟩ := sc_ok N hN R (by omega) hRN
      have CH := Lib.hid (fun w => chanceSS N R w (by omega) hRN)
      have KP := Lib.hid (fun w => keptS_yes (scN N R) (scD N R) w so1)
      generalize scN N R = SN at *
      generalize scD N R = SD at *
      clear so1 so2 so3 hN hRN h2
      go_enter Try.func29, Try.ntmps29
      go_wp2_with fail
      refine (F.out _).mono ?_
      rintro e w1 ⟨rfl, rfl⟩
      go_wp2_with fail
      refine (G.out _).mono ?_
      rintro e w2 ⟨rfl, rfl⟩
      go_wp2_with fail
      refine (CH.out _).mono ?_
      rintro e w3 ⟨rfl, b3⟩
      have B3 := Lib.hid (bl_then B0.out b3)
      clear b3
      go_wp2_with fail
      refine (KP.out _).mono ?_
      rintro e w4 ⟨rfl, b4⟩
      have B4 := Lib.hid (bl_then B3.out b4)
      clear b4
      obtain ⟨⟨x0, y0⟩, x1, y1⟩ := RC.out _ B4.out
      go_wp2_with fail
      refine bodyPost_ret (v := .tuple #[.agg #[.int .i64 SN, .int .i64 SD], .bool true]) (by simp [results, Try.results29, go_sem, x0, x1]) rfl ⟨rfl, ?_⟩
      exact RF.out _ _ _ B4.out
    · rw [decide_eq_false h2] at G
      rw [show scV n r = .tuple #[.agg #[.int .i64 0, .int .i64 0], .bool false] from if_neg (by unfold secOk; rw [decide_eq_false h2, Bool.and_false]; decide)]
      clear h2
      go_enter Try.func29, Try.ntmps29
      go_wp2_with fail
      refine (F.out _).mono ?_
      rintro e w1 ⟨rfl, rfl⟩
      go_wp2_with fail
      refine (G.out _).mono ?_
      rintro e w2 ⟨rfl, rfl⟩
      go_wp2_with fail
      refine bodyPost_ret (v := .tuple #[.agg #[.int .i64 0, .int .i64 0], .bool false]) (by simp [results, Try.results29, go_sem]) rfl ⟨rfl, ?_⟩
      first | exact RF.out _ _ _ B0.out | exact (Below.refl w.heap.size w).alloc (Nat.le_refl _) _
  · rw [decide_eq_false h1] at F
    rw [show scV n r = .tuple #[.agg #[.int .i64 0, .int .i64 0], .bool false] from if_neg (by unfold secOk; rw [decide_eq_false h1, Bool.false_and]; decide)]
    clear h1
    go_enter Try.func29, Try.ntmps29
    go_wp2_with fail
    refine (F.out _).mono ?_
    rintro e w1 ⟨rfl, rfl⟩
    go_wp2_with fail
    refine bodyPost_ret (v := .tuple #[.agg #[.int .i64 0, .int .i64 0], .bool false]) (by simp [results, Try.results29, go_sem]) rfl ⟨rfl, ?_⟩
    first | exact RF.out _ _ _ B0.out | exact (Below.refl w.heap.size w).alloc (Nat.le_refl _) _
end Go.Proofs.Ytnpiciabpgkiiaa
