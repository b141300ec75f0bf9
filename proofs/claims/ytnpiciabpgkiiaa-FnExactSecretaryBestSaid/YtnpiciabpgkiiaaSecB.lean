/- The best rule for people, in the program and in the model. -/
import Derived.Test.YtnpiciabpgkiiaaSecM
import Derived.Test.YtnpiciabpgkiiaaFracD
namespace Go.Proofs.Ytnpiciabpgkiiaa
open Go.RowKit
set_option linter.unusedVariables false
def sbV (n : Int) : Value := if decide (1 ≤ n ∧ n ≤ 10) = true then .tuple #[.int .i64 (sbT n.toNat n.toNat : Nat), .bool true] else .tuple #[.int .i64 0, .bool false]
theorem sbV_form (n : Int) : ∃ r ok, sbV n = .tuple #[.int .i64 r, .bool ok] := by
  unfold sbV; split <;> exact ⟨_, _, rfl⟩
theorem scV_nat {N R : Nat} (hN : 1 ≤ N ∧ N ≤ 10) (hR : R < N) : scV N R = .tuple #[.agg #[.int .i64 (scN N R), .int .i64 (scD N R)], .bool true] :=
  if_pos (by unfold secOk; rw [decide_eq_true (by omega), decide_eq_true (by omega)]; rfl)
theorem cmp_nat {N R Q : Nat} (hN : N ≤ 10) (hR : R < N) (hQ : Q < N) : cmpV (scN N R) (scD N R) (scN N Q) (scD N Q) = .tuple #[.int .i64 (ordI (scN N R * scD N Q) (scN N Q * scD N R)), .bool true] :=
  if_pos ⟨(sc_ok N (by omega) R (by omega) hR).1, (sc_ok N (by omega) Q (by omega) hQ).1⟩
theorem sb_step_yes {N k : Nat} (h : 0 < ordI (scN N k * scD N (sbT N k)) (scN N (sbT N k) * scD N k)) : sbT N (k + 1) = k := by
  unfold ordI at h
  split at h
  · omega
  · split at h
    · next h2 => simp only [sbT]; rw [if_pos h2]
    · omega
theorem sb_step_no {N k : Nat} (h : ¬ 0 < ordI (scN N k * scD N (sbT N k)) (scN N (sbT N k) * scD N k)) : sbT N (k + 1) = sbT N k := by
  unfold ordI at h
  simp only [sbT]
  rw [if_neg]
  intro h2
  rw [if_neg (by omega), if_pos h2] at h
  omega
set_option maxRecDepth 100000 in
set_option maxHeartbeats 2000000 in
theorem secBestI (n : Int) (w : World) : Calls Try.prog 32 #[.int .i64 n] w (Gives (sbV n) w) := by
  by_cases h1 : 1 ≤ n ∧ n ≤ 10
  · obtain ⟨N, rfl⟩ : ∃ N : Nat, n = N := ⟨n.toNat, by omega⟩
    have hN : 1 ≤ N ∧ N ≤ 10 := by omega
    rw [show sbV N = .tuple #[.int .i64 (sbT N N : Nat), .bool true] from if_pos (decide_eq_true h1)]
    have CH := Lib.hid (fun (R : Nat) (hR : R < N) w => show Calls Try.prog 30 #[.int .i64 N, .int .i64 R] w (Gives (.tuple #[.agg #[.int .i64 (scN N R), .int .i64 (scD N R)], .bool true]) w) from by rw [← scV_nat hN hR]; exact secChI N R w)
    have CP := Lib.hid (fun (R Q : Nat) (hR : R < N) (hQ : Q < N) w => show Calls Try.prog 64 #[.agg #[.int .i64 (scN N R), .int .i64 (scD N R)], .agg #[.int .i64 (scN N Q), .int .i64 (scD N Q)]] w (Gives (.tuple #[.int .i64 (ordI (scN N R * scD N Q) (scN N Q * scD N R)), .bool true]) w) from by rw [← cmp_nat hN.2 hR hQ]; exact cmpI _ _ _ _ w)
    have LT := Lib.hid (fun k (hk : k ≤ N) => sb_lt N (by omega) k (by omega) hN.1 hk)
    have YS := Lib.hid (fun k h => sb_step_yes (N := N) (k := k) h)
    have NS := Lib.hid (fun k h => sb_step_no (N := N) (k := k) h)
    have S1 := Lib.hid (sb_one N)
    have C0 := Lib.hid (fun w => show Calls Try.prog 30 #[.int .i64 N, .int .i64 0] w (Gives (.tuple #[.agg #[.int .i64 (scN N 0), .int .i64 (scD N 0)], .bool true]) w) from CH.out 0 (by omega) w)
    obtain ⟨p0, hp0⟩ : ∃ p0, p0 = scN N 0 := ⟨_, rfl⟩
    obtain ⟨q0, hq0⟩ : ∃ q0, q0 = scD N 0 := ⟨_, rfl⟩
    have E0 := Lib.hid (And.intro hp0 hq0)
    rw [← hp0, ← hq0] at C0
    clear hp0 hq0 h1
    have i10 : (N : Int) ≤ 10 := by omega
    go_enter Try.func32, Try.ntmps32
    go_wp2_with fail
    refine (C0.out _).mono ?_
    rintro e w1 ⟨rfl, b1⟩
    have B1 := Lib.hid b1
    have Q1 := Lib.hid (QBox.new w1 p0 q0)
    have A1 := Lib.hid ((Below.refl w1.heap.size w1).alloc (Nat.le_refl _) (.cells #[.int .i64 p0, .int .i64 q0] 26))
    clear b1
    go_wp2_with fail
    go_loopg [6, 7] N (fun gg s i wr => ∃ k : Nat, 1 ≤ k ∧ k ≤ N ∧ N - k ≤ gg ∧ i = .int .i64 k ∧ s = .int .i64 (sbT N k : Nat) ∧ Hid (QBox wr w1.heap.size (scN N (sbT N k)) (scD N (sbT N k))) ∧ Hid (Below w1.heap.size w1 wr))
    case atStart => exact ⟨1, Nat.le_refl _, by omega, by omega, rfl, by rw [S1.out]; rfl, by rw [S1.out, ← E0.out.1, ← E0.out.2]; exact Q1, A1⟩
    case round =>
      clear Q1 A1 E0
      obtain ⟨k, hk0, hk, hgg, rfl, rfl, HQ, HB⟩ := hrel
      by_cases hlt : k < N
      · have i1 : (k : Int) < (N : Int) := by omega
        have hsb := LT.out k hk
        have C1 := Lib.hid (CH.out k hlt)
        have P1 := Lib.hid (CP.out k (sbT N k) hlt hsb)
        have Y1 := Lib.hid (YS.out k)
        have N1 := Lib.hid (NS.out k)
        obtain ⟨sb, hsbE⟩ : ∃ sb, sb = sbT N k := ⟨_, rfl⟩
        rw [← hsbE] at HQ P1 Y1 N1 hsb ⊢
        obtain ⟨o, ho⟩ : ∃ o, o = ordI (scN N k * scD N sb) (scN N sb * scD N k) := ⟨_, rfl⟩
        rw [← ho] at P1 Y1 N1
        obtain ⟨pk, hpk⟩ : ∃ pk, pk = scN N k := ⟨_, rfl⟩
        obtain ⟨qk, hqk⟩ : ∃ qk, qk = scD N k := ⟨_, rfl⟩
        obtain ⟨pb, hpb⟩ : ∃ pb, pb = scN N sb := ⟨_, rfl⟩
        obtain ⟨qb, hqb⟩ : ∃ qb, qb = scD N sb := ⟨_, rfl⟩
        have EB := Lib.hid (And.intro hpb hqb)
        have EK := Lib.hid (And.intro hpk hqk)
        rw [← hpk, ← hqk] at C1
        rw [← hpk, ← hqk, ← hpb, ← hqb] at P1
        rw [← hpb, ← hqb] at HQ
        clear hsbE ho hpk hqk hpb hqb
        by_cases ho : 0 < o
        · have N2 := Lib.hid (Y1.out (by omega))
          clear Y1 N1
          go_wp2_with fail
          refine (C1.out _).mono ?_
          rintro e w2 ⟨rfl, b2⟩
          have HQ2 := Lib.hid (HQ.out.below b2 HQ.out.lt)
          have HB2 := Lib.hid (bl_then HB.out b2)
          have W2 := (Below.refl w2.heap.size w2).alloc (Nat.le_refl _) (.cells #[.int .i64 pk, .int .i64 qk] 26)
          have HQ3 := Lib.hid (HQ2.out.below W2 HQ2.out.lt)
          have HK3 := Lib.hid (QBox.new w2 pk qk)
          have HB3 := Lib.hid (HB2.out.alloc HB2.out.size (.cells #[.int .i64 pk, .int .i64 qk] 26))
          obtain ⟨w3, hw3⟩ : ∃ w3, w3 = w2.alloc (.cells #[.int .i64 pk, .int .i64 qk] 26) := ⟨_, rfl⟩
          rw [← hw3] at HQ3 HK3 HB3
          obtain ⟨⟨x0, x1⟩, y0, y1⟩ := HQ2.out.cells
          have lt2 := HQ2.out.lt
          have hne := Lib.hid (show w2.heap.size ≠ w1.heap.size by have := HQ2.out.lt; omega)
          clear b2 HQ HB HB2 W2
          go_wp2_with fail
          rw [← hw3]
          clear hw3
          refine (P1.out _).mono ?_
          rintro e w4 ⟨rfl, b4⟩
          have HQ4 := Lib.hid (HQ3.out.below b4 HQ3.out.lt)
          have HK4 := Lib.hid (HK3.out.below b4 HK3.out.lt)
          have HB4 := Lib.hid (bl_then HB3.out b4)
          clear b4 x0 x1 y0 y1 HQ2 HQ3 HK3 HB3
          obtain ⟨⟨x0, x1⟩, y0, y1⟩ := HQ4.out.cells
          obtain ⟨⟨u0, u1⟩, v0, v1⟩ := HK4.out.cells
          go_wp2_with fail
          go_region
          go_wp2_with fail
          go_roundg (N - (k + 1))
          case rel => exact ⟨k + 1, by omega, by omega, by omega, by go_num, by rw [N2.out], by rw [N2.out, ← EK.out.1, ← EK.out.2]; exact Lib.hid (HQ4.out.st _ _), Lib.hid (below_drew (bl_st HB4.out (Nat.le_refl _) _ _))⟩
          case measure => omega
        · have N2 := Lib.hid (N1.out (by omega))
          clear Y1 N1
          go_wp2_with fail
          refine (C1.out _).mono ?_
          rintro e w2 ⟨rfl, b2⟩
          have HQ2 := Lib.hid (HQ.out.below b2 HQ.out.lt)
          have HB2 := Lib.hid (bl_then HB.out b2)
          have W2 := (Below.refl w2.heap.size w2).alloc (Nat.le_refl _) (.cells #[.int .i64 pk, .int .i64 qk] 26)
          have HQ3 := Lib.hid (HQ2.out.below W2 HQ2.out.lt)
          have HK3 := Lib.hid (QBox.new w2 pk qk)
          have HB3 := Lib.hid (HB2.out.alloc HB2.out.size (.cells #[.int .i64 pk, .int .i64 qk] 26))
          obtain ⟨w3, hw3⟩ : ∃ w3, w3 = w2.alloc (.cells #[.int .i64 pk, .int .i64 qk] 26) := ⟨_, rfl⟩
          rw [← hw3] at HQ3 HK3 HB3
          obtain ⟨⟨x0, x1⟩, y0, y1⟩ := HQ2.out.cells
          have lt2 := HQ2.out.lt
          clear b2 HQ HB HB2 W2
          go_wp2_with fail
          rw [← hw3]
          clear hw3
          refine (P1.out _).mono ?_
          rintro e w4 ⟨rfl, b4⟩
          have HQ4 := Lib.hid (HQ3.out.below b4 HQ3.out.lt)
          have HB4 := Lib.hid (bl_then HB3.out b4)
          clear b4 x0 x1 y0 y1 HQ2 HQ3 HK3 HB3
          go_wp2_with fail
          go_roundg (N - (k + 1))
          case rel => exact ⟨k + 1, by omega, by omega, by omega, by go_num, by rw [N2.out], by rw [N2.out, ← EB.out.1, ← EB.out.2]; exact HQ4, HB4⟩
          case measure => omega
      · have hkN : k = N := by omega
        have i1 : ¬ (k : Int) < (N : Int) := by omega
        have FIN := Lib.hid (show sbT N k = sbT N N by rw [hkN])
        have BF := Lib.hid (bl_then B1.out HB.out)
        clear hkN
        go_wp2_with fail
        go_ret2
        exact ⟨by rw [FIN.out]; rfl, BF.out⟩
  · rw [show sbV n = .tuple #[.int .i64 0, .bool false] from if_neg (by rw [decide_eq_false h1]; decide)]
    have C0 := Lib.hid (fun w => secChI n 0 w)
    rw [show scV n 0 = .tuple #[.agg #[.int .i64 0, .int .i64 0], .bool false] from if_neg (by unfold secOk; rw [decide_eq_false h1, Bool.false_and]; decide)] at C0
    clear h1
    go_enter Try.func32, Try.ntmps32
    go_wp2_with fail
    refine (C0.out _).mono ?_
    rintro e w1 ⟨rfl, b1⟩
    have B1 := Lib.hid (b1.alloc b1.size (.cells #[.int .i64 0, .int .i64 0] 26))
    clear b1
    go_wp2_with fail
    go_ret2
    exact ⟨rfl, B1.out⟩
set_option maxRecDepth 100000 in
set_option maxHeartbeats 2000000 in
theorem secBestS (n : Int) (w : World) : Calls Try.prog 31 #[.int .i64 n] w (Gives (sbV n) w) := by
  have F := Lib.hid (fun w => peopleS n w)
  by_cases h1 : 1 ≤ n ∧ n ≤ 10
  · rw [decide_eq_true h1] at F
    obtain ⟨N, rfl⟩ : ∃ N : Nat, n = N := ⟨n.toNat, by omega⟩
    have hN : 1 ≤ N ∧ N ≤ 10 := by omega
    rw [show sbV N = .tuple #[.int .i64 (sbT N N : Nat), .bool true] from if_pos (decide_eq_true h1)]
    have CH := Lib.hid (fun (R : Nat) (hR : R < N) w => chanceSS N R w hN.2 hR)
    have LS := Lib.hid (fun (R Q : Nat) (hR : R < N) (hQ : Q < N) w => lessS (scN N R) (scD N R) (scN N Q) (scD N Q) w (by have := sc_ok N (by omega) R (by omega) hR; omega) (by have := sc_ok N (by omega) R (by omega) hR; omega) (by have := sc_ok N (by omega) Q (by omega) hQ; omega) (by have := sc_ok N (by omega) Q (by omega) hQ; omega))
    have LT := Lib.hid (fun k (hk : k ≤ N) => sb_lt N (by omega) k (by omega) hN.1 hk)
    have ST := Lib.hid (fun k => show sbT N (k + 1) = if scN N (sbT N k) * scD N k < scN N k * scD N (sbT N k) then k else sbT N k from rfl)
    have S1 := Lib.hid (sb_one N)
    have i10 : (N : Int) ≤ 10 := by omega
    clear h1
    go_enter Try.func31, Try.ntmps31
    go_wp2_with fail
    refine (F.out _).mono ?_
    rintro e w1 ⟨rfl, rfl⟩
    go_wp2_with fail
    go_loopg [4, 5] N (fun gg s i wr => ∃ k : Nat, 1 ≤ k ∧ k ≤ N ∧ N - k ≤ gg ∧ i = .int .i64 k ∧ s = .int .i64 (sbT N k : Nat) ∧ Hid (Below w.heap.size w wr))
    case atStart => exact ⟨1, Nat.le_refl _, by omega, by omega, rfl, by rw [S1.out]; rfl, Lib.hid (Below.refl _ _)⟩
    case round =>
      obtain ⟨k, hk0, hk, hgg, rfl, rfl, HB⟩ := hrel
      by_cases hlt : k < N
      · have i1 : (k : Int) < (N : Int) := by omega
        have hsb := LT.out k hk
        have C1 := Lib.hid (CH.out (sbT N k) hsb)
        have C2 := Lib.hid (CH.out k hlt)
        have P1 := Lib.hid (LS.out (sbT N k) k hsb hlt)
        have T1 := Lib.hid (ST.out k)
        by_cases ho : scN N (sbT N k) * scD N k < scN N k * scD N (sbT N k)
        · have N2 := Lib.hid (show sbT N (k + 1) = k by rw [T1.out, if_pos ho])
          rw [decide_eq_true ho] at P1
          obtain ⟨sb, hsbE⟩ : ∃ sb, sb = sbT N k := ⟨_, rfl⟩
          rw [← hsbE] at C1 P1 ⊢
          generalize scN N sb = pb at *
          generalize scD N sb = qb at *
          generalize scN N k = pk at *
          generalize scD N k = qk at *
          clear hsbE ho T1 hsb
          go_wp2_with fail
          refine (C1.out _).mono ?_
          rintro e w2 ⟨rfl, b2⟩
          have HB2 := Lib.hid (bl_then HB.out b2)
          clear b2
          go_wp2_with fail
          refine (C2.out _).mono ?_
          rintro e w3 ⟨rfl, b3⟩
          have HB3 := Lib.hid (bl_then HB2.out b3)
          clear b3
          go_wp2_with fail
          refine (P1.out _).mono ?_
          rintro e w4 ⟨rfl, b4⟩
          have HB4 := Lib.hid (bl_then HB3.out b4)
          clear b4 HB HB2 HB3
          go_wp2_with fail
          go_roundg (N - (k + 1))
          case rel => exact ⟨k + 1, by omega, by omega, by omega, by go_num, by rw [N2.out], HB4⟩
          case measure => omega
        · have N2 := Lib.hid (show sbT N (k + 1) = sbT N k by rw [T1.out, if_neg ho])
          rw [decide_eq_false ho] at P1
          obtain ⟨sb, hsbE⟩ : ∃ sb, sb = sbT N k := ⟨_, rfl⟩
          rw [← hsbE] at C1 P1 N2 ⊢
          generalize scN N sb = pb at *
          generalize scD N sb = qb at *
          generalize scN N k = pk at *
          generalize scD N k = qk at *
          clear hsbE ho T1 hsb
          go_wp2_with fail
          refine (C1.out _).mono ?_
          rintro e w2 ⟨rfl, b2⟩
          have HB2 := Lib.hid (bl_then HB.out b2)
          clear b2
          go_wp2_with fail
          refine (C2.out _).mono ?_
          rintro e w3 ⟨rfl, b3⟩
          have HB3 := Lib.hid (bl_then HB2.out b3)
          clear b3
          go_wp2_with fail
          refine (P1.out _).mono ?_
          rintro e w4 ⟨rfl, b4⟩
          have HB4 := Lib.hid (bl_then HB3.out b4)
          clear b4 HB HB2 HB3
          go_wp2_with fail
          go_roundg (N - (k + 1))
          case rel => exact ⟨k + 1, by omega, by omega, by omega, by go_num, by rw [N2.out], HB4⟩
          case measure => omega
      · have hkN : k = N := by omega
        have i1 : ¬ (k : Int) < (N : Int) := by omega
        have FIN := Lib.hid (show sbT N k = sbT N N by rw [hkN])
        clear hkN
        go_wp2_with fail
        go_ret2
        exact ⟨by rw [FIN.out]; rfl, HB.out⟩
  · rw [decide_eq_false h1] at F
    rw [show sbV n = .tuple #[.int .i64 0, .bool false] from if_neg (by rw [decide_eq_false h1]; decide)]
    clear h1
    go_enter Try.func31, Try.ntmps31
    go_wp2_with fail
    refine (F.out _).mono ?_
    rintro e w1 ⟨rfl, rfl⟩
    go_wp2_with fail
    go_ret2
    exact ⟨rfl, Below.refl _ _⟩
end Go.Proofs.Ytnpiciabpgkiiaa
