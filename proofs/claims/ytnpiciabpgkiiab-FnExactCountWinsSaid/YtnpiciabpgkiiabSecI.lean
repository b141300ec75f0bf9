/- The chances of rules for people, in the program. -/
import Derived.Test.YtnpiciabpgkiiabSecP
import Derived.Test.YtnpiciabpgkiiabRes
import Derived.Test.YtnpiciabpgkiiabFracA
import Derived.Test.YtnpiciabpgkiiabWlkI
import Derived.Deep.LoopGhost
namespace Go.Proofs.Ytnpiciabpgkiiab
open Go.RowKit
set_option linter.unusedVariables false
def scV (n r : Int) : Value := if secOk n r = true then .tuple #[.agg #[.int .i64 (scN n.toNat r.toNat), .int .i64 (scD n.toNat r.toNat)], .bool true] else .tuple #[.agg #[.int .i64 0, .int .i64 0], .bool false]
theorem scV_form (n r : Int) : ∃ p q ok, scV n r = .tuple #[.agg #[.int .i64 p, .int .i64 q], .bool ok] := by
  unfold scV; split <;> exact ⟨_, _, _, rfl⟩
theorem keptV_yes {n d : Int} (h : isFr n d = true) : keptV n d = .tuple #[.agg #[.int .i64 n, .int .i64 d], .bool true] := by
  unfold keptV
  rw [isFr, Bool.and_eq_true] at h
  rw [if_pos h.1]
theorem addV_yes {n d m e p q : Int} (h1 : isFr n d = true) (h2 : isFr m e = true) (hp : p = cutN (n * e + m * d) (d * e)) (hq : q = cutD (n * e + m * d) (d * e)) (h3 : isFr p q = true) : addV n d m e = .tuple #[.agg #[.int .i64 p, .int .i64 q], .bool true] := by
  unfold addV
  rw [if_pos ⟨h1, h2⟩, ← hp, ← hq, keptV_yes h3]
set_option maxRecDepth 100000 in
theorem one_fr : ∀ k : Nat, k < 11 → 1 ≤ k → isFr (1 : Int) (k : Int) = true := by decide +kernel
/-- One more in the sum. -/
theorem hm_add {r j : Nat} (hr : 1 ≤ r) (h : r + j + 1 ≤ 10) : addV (hmP r j).1 (hmP r j).2 1 ((r + j : Nat) : Int) = .tuple #[.agg #[.int .i64 (hmP r (j + 1)).1, .int .i64 (hmP r (j + 1)).2], .bool true] :=
  addV_yes (hm_ok1 r (by omega) j (by omega) hr (by omega)) (one_fr (r + j) (by omega) (by omega)) rfl rfl (hm_ok1 r (by omega) (j + 1) (by omega) hr (by omega))
set_option maxRecDepth 100000 in
set_option maxHeartbeats 2000000 in
theorem secChI (n r : Int) (w : World) : Calls Try.prog 67 #[.int .i64 n, .int .i64 r] w (Gives (scV n r) w) := by
  have F := Lib.hid (fun w => fromI n 1 10 w)
  have G := Lib.hid (fun w => fromI r 0 (n - 1) w)
  have B0 := Lib.hid (bl_self w (.cells #[.int .i64 0, .int .i64 0] 32))
  have RC := Lib.hid (fun w3 b => rs_cells (w := w) (w3 := w3) b)
  have RF := Lib.hid (fun w3 x y b => rs_fin (w := w) (w3 := w3) (x := x) (y := y) b)
  by_cases h1 : 1 ≤ n ∧ n ≤ 10
  · rw [decide_eq_true h1] at F
    obtain ⟨h1a, h1b⟩ := h1
    by_cases h2 : 0 ≤ r ∧ r ≤ n - 1
    · rw [decide_eq_true h2] at G
      obtain ⟨N, rfl⟩ : ∃ N : Nat, n = N := ⟨n.toNat, by omega⟩
      obtain ⟨R, rfl⟩ : ∃ R : Nat, r = R := ⟨r.toNat, by omega⟩
      have hRN : R < N := by omega
      have hN : N < 11 := by omega
      rw [show scV N R = .tuple #[.agg #[.int .i64 (scN N R), .int .i64 (scD N R)], .bool true] from if_pos (by unfold secOk; rw [decide_eq_true ⟨h1a, h1b⟩, decide_eq_true h2]; rfl)]
      obtain ⟨so1, so2, so3⟩ := sc_ok N hN R (by omega) hRN
      have KY := Lib.hid (keptV_yes so1)
      by_cases hr0 : R = 0
      · subst hr0
        have so := sc_one N hN (by omega)
        have e1 : scN N 0 = 1 := if_pos rfl
        have e2 : scD N 0 = N := if_pos rfl
        have RD := Lib.hid (fun w => reduceI_any 1 N w (by omega) (by omega))
        rw [so.1, so.2, ← e1] at RD
        rw [← e2] at RD
        rw [KY.out] at RD
        rw [e1] at RD ⊢
        rw [e2] at RD ⊢
        clear so e1 e2 so1 so2 so3 KY h2 hRN hN
        obtain ⟨wa, hwa⟩ : ∃ wa, wa = w.alloc (.cells #[.int .i64 0, .int .i64 0] 32) := ⟨_, rfl⟩
        rw [← hwa] at B0 RC RF
        go_enter Try.func67, Try.ntmps67
        go_wp2_with fail
        rw [← hwa]
        clear hwa
        refine (F.out _).mono ?_
        rintro e w1 ⟨rfl, rfl⟩
        go_wp2_with fail
        refine (G.out _).mono ?_
        rintro e w2 ⟨rfl, rfl⟩
        go_wp2_with fail
        refine (RD.out _).mono ?_
        rintro e w3 ⟨rfl, b3⟩
        have B3 := Lib.hid b3
        clear b3
        obtain ⟨⟨x0, y0⟩, x1, y1⟩ := RC.out _ B3.out
        go_wp2_with fail
        refine bodyPost_ret (v := .tuple #[.agg #[.int .i64 1, .int .i64 N], .bool true]) (by simp [results, Try.results67, go_sem, x0, x1]) rfl ⟨rfl, ?_⟩
        exact RF.out _ _ _ B3.out
      · have hr1 : 1 ≤ R := by omega
        have e1 : scN N R = cutN ((R : Int) * (hmP R (N - R)).1) ((N : Int) * (hmP R (N - R)).2) := if_neg hr0
        have e2 : scD N R = cutD ((R : Int) * (hmP R (N - R)).1) ((N : Int) * (hmP R (N - R)).2) := if_neg hr0
        have hb := hm_ok2 R (by omega) (N - R) (by omega) hr1 (by omega)
        have hd := hm_ok3 R (by omega) (N - R) (by omega) hr1 (by omega)
        have m0 : 0 ≤ (R : Int) * (hmP R (N - R)).1 := Int.mul_nonneg (by omega) hb.1
        have m1 : (R : Int) * (hmP R (N - R)).1 ≤ 10 * 10000 := Int.mul_le_mul (by omega) hb.2 hb.1 (by omega)
        have m2 : 1 * 1 ≤ (N : Int) * (hmP R (N - R)).2 := Int.mul_le_mul (by omega) hd.1 (by omega) (by omega)
        have m3 : (N : Int) * (hmP R (N - R)).2 ≤ 10 * 2520 := Int.mul_le_mul (by omega) hd.2 (by omega) (by omega)
        have RD := Lib.hid (fun w => reduceI_any ((R : Int) * (hmP R (N - R)).1) ((N : Int) * (hmP R (N - R)).2) w (by omega) (by omega))
        rw [← e1, ← e2, KY.out] at RD
        have AD := Lib.hid (fun k (hk : k < N) (hk2 : R ≤ k) w => addI (hmP R (k - R)).1 (hmP R (k - R)).2 1 k w)
        have AH := Lib.hid (fun k (hk : k < N) (hk2 : R ≤ k) => show addV (hmP R (k - R)).1 (hmP R (k - R)).2 1 (k : Int) = .tuple #[.agg #[.int .i64 (hmP R (k + 1 - R)).1, .int .i64 (hmP R (k + 1 - R)).2], .bool true] from by
          have := hm_add (r := R) (j := k - R) hr1 (by omega)
          rw [show R + (k - R) = k by omega, show k - R + 1 = k + 1 - R by omega] at this
          exact this)
        have Q0 : Hid ((hmP R (R - R)).1 = 0 ∧ (hmP R (R - R)).2 = 1) := Lib.hid (by rw [Nat.sub_self]; exact ⟨rfl, rfl⟩)
        generalize scN N R = SN at *
        generalize scD N R = SD at *
        obtain ⟨H, hH⟩ : ∃ H : Nat → Int × Int, H = fun k => hmP R (k - R) := ⟨_, rfl⟩
        have hH2 : ∀ k, hmP R (k - R) = H k := fun k => by rw [hH]
        simp only [hH2] at AD AH Q0 RD hb hd m0 m1 m2 m3
        have WR1 : IntKind.i64.wrap ((R : Int) * (H N).1) = (R : Int) * (H N).1 := IntWalk.i64_in _ (by omega)
        have WR2 : IntKind.i64.wrap ((N : Int) * (H N).2) = (N : Int) * (H N).2 := IntWalk.i64_in _ (by omega)
        have zR : ((R : Int) == 0) = false := by simp; omega
        clear hH hH2 e1 e2 so1 so2 so3 KY h2 hN hr0
        obtain ⟨wa, hwa⟩ : ∃ wa, wa = w.alloc (.cells #[.int .i64 0, .int .i64 0] 32) := ⟨_, rfl⟩
        rw [← hwa] at B0 RC RF
        have QN := Lib.hid (QBox.new wa 0 1)
        have BN := Lib.hid ((Below.refl wa.heap.size wa).alloc (Nat.le_refl _) (.cells #[.int .i64 0, .int .i64 1] 32))
        go_enter Try.func67, Try.ntmps67
        go_wp2_with fail
        rw [← hwa]
        clear hwa
        refine (F.out _).mono ?_
        rintro e w1 ⟨rfl, rfl⟩
        go_wp2_with fail
        refine (G.out _).mono ?_
        rintro e w2 ⟨rfl, rfl⟩
        go_wp2_with fail
        go_loopg [7] N (fun gg i wr => ∃ k : Nat, R ≤ k ∧ k ≤ N ∧ N - k ≤ gg ∧ i = .int .i64 k ∧ Hid (QBox wr wa.heap.size (H k).1 (H k).2) ∧ Hid (Below wa.heap.size wa wr))
        case atStart => exact ⟨R, Nat.le_refl _, by omega, by omega, rfl, by rw [Q0.out.1, Q0.out.2]; exact QN, BN⟩
        case round =>
          clear QN BN
          obtain ⟨k, hk0, hk, hgg, rfl, HQ, HB⟩ := hrel
          obtain ⟨⟨x0, x1⟩, y0, y1⟩ := HQ.out.cells
          by_cases hlt : k < N
          · have i1 : (k : Int) < (N : Int) := by omega
            have A1 := Lib.hid (AD.out k hlt hk0)
            rw [AH.out k hlt hk0] at A1
            have HQ0 := Lib.hid HQ.out
            obtain ⟨a, ha⟩ : ∃ a, a = H k := ⟨_, rfl⟩
            obtain ⟨b, hb2⟩ : ∃ b, b = H (k + 1) := ⟨_, rfl⟩
            have HB2 := Lib.hid hb2
            rw [← ha] at A1 x0 x1 HQ0
            rw [← hb2] at A1
            clear ha hb2 HQ
            go_wp2_with fail
            refine (A1.out _).mono ?_
            rintro e w2 ⟨rfl, b2⟩
            have s2 := b2.size
            have hlt2 := HQ0.out.lt
            have HQ1 := Lib.hid (HQ0.out.below b2 hlt2)
            obtain ⟨⟨z0, z1⟩, t0, t1⟩ := HQ1.out.cells
            have HB1 := Lib.hid (bl_then HB.out b2)
            clear b2 x0 x1 y0 y1 HB HQ0
            go_wp2_with fail
            go_roundg (N - (k + 1))
            case rel => exact ⟨k + 1, by omega, by omega, by omega, by go_num, by rw [← HB2.out]; exact Lib.hid (HQ1.out.st _ _), Lib.hid (bl_st HB1.out (Nat.le_refl _) _ _)⟩
            case measure => omega
          · have hkN : k = N := by omega
            rw [hkN] at x0 x1
            have i1 : ¬ (k : Int) < (N : Int) := by omega
            clear hkN
            go_wp2_with fail
            refine (RD.out _).mono ?_
            rintro e w3 ⟨rfl, b3⟩
            have B3 := Lib.hid (bl_then B0.out ((bl_then HB.out b3)))
            clear b3
            obtain ⟨⟨z0, t0⟩, z1, t1⟩ := RC.out _ B3.out
            go_wp2_with fail
            refine bodyPost_ret (v := .tuple #[.agg #[.int .i64 SN, .int .i64 SD], .bool true]) (by simp [results, Try.results67, go_sem, z0, z1]) rfl ⟨rfl, ?_⟩
            exact RF.out _ _ _ B3.out
    · rw [decide_eq_false h2] at G
      rw [show scV n r = .tuple #[.agg #[.int .i64 0, .int .i64 0], .bool false] from if_neg (by unfold secOk; rw [decide_eq_false h2, Bool.and_false]; decide)]
      clear h2
      go_enter Try.func67, Try.ntmps67
      go_wp2_with fail
      refine (F.out _).mono ?_
      rintro e w1 ⟨rfl, rfl⟩
      go_wp2_with fail
      refine (G.out _).mono ?_
      rintro e w2 ⟨rfl, rfl⟩
      go_wp2_with fail
      refine bodyPost_ret (v := .tuple #[.agg #[.int .i64 0, .int .i64 0], .bool false]) (by simp [results, Try.results67, go_sem]) rfl ⟨rfl, ?_⟩
      first | exact RF.out _ _ _ B0.out | exact (Below.refl w.heap.size w).alloc (Nat.le_refl _) _
  · rw [decide_eq_false h1] at F
    rw [show scV n r = .tuple #[.agg #[.int .i64 0, .int .i64 0], .bool false] from if_neg (by unfold secOk; rw [decide_eq_false h1, Bool.false_and]; decide)]
    clear h1
    go_enter Try.func67, Try.ntmps67
    go_wp2_with fail
    refine (F.out _).mono ?_
    rintro e w1 ⟨rfl, rfl⟩
    go_wp2_with fail
    refine bodyPost_ret (v := .tuple #[.agg #[.int .i64 0, .int .i64 0], .bool false]) (by simp [results, Try.results67, go_sem]) rfl ⟨rfl, ?_⟩
    first | exact RF.out _ _ _ B0.out | exact (Below.refl w.heap.size w).alloc (Nat.le_refl _) _
end Go.Proofs.Ytnpiciabpgkiiab
