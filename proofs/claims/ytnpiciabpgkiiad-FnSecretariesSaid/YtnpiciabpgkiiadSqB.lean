/- SecW in one text. -/
import Derived.Test.YtnpiciabpgkiiadSqA
import Derived.Deep.QuietTactic
import Derived.BigQuiet
namespace Go.Proofs.Ytnpiciabpgkiiad
open Go.RowKit
set_option linter.unusedVariables false
theorem bytes_below {w w' : World} {B n : Nat} {p : Option Addr} (h : BytesAt w B p n) (hb : Below B w w') : BytesAt w' B p n := by
  intro i hi
  obtain ⟨b, off, z, e, hB, z0, z1, hc⟩ := h i hi
  exact ⟨b, off, z, e, hB, z0, z1, by rw [hb.cell (p := ⟨b, off + i, none⟩) hB]; exact hc⟩
theorem cwV_in (m s : Int) : ∃ wn two, cwV m s = .tuple #[.int .i64 wn, .bool two] ∧ (two = true → ∃ M S : Nat, m = M ∧ s = S ∧ 1 ≤ M ∧ M ≤ 7 ∧ S < M ∧ wn = (winsF M S M [] : Nat)) := by
  by_cases hs : cwOk m s = true
  · have hs' := hs
    unfold cwOk at hs'
    simp only [Bool.and_eq_true, decide_eq_true_eq] at hs'
    obtain ⟨M, rfl⟩ : ∃ M : Nat, m = M := ⟨m.toNat, by omega⟩
    obtain ⟨S, rfl⟩ : ∃ S : Nat, s = S := ⟨s.toNat, by omega⟩
    exact ⟨_, true, if_pos hs, fun _ => ⟨M, S, rfl, rfl, by omega, by omega, by omega, rfl⟩⟩
  · exact ⟨_, false, if_neg hs, fun h => by cases h⟩
theorem scV_any (x y : Int) : ∃ c1 c2 ok, scV x y = .tuple #[.agg #[.int .i64 c1, .int .i64 c2], .bool ok] ∧ (ok = true → ∃ N R : Nat, x = N ∧ 1 ≤ N ∧ N ≤ 10 ∧ R < N ∧ c1 = scN N R ∧ c2 = scD N R) := by
  by_cases hs : secOk x y = true
  · have hs' := hs
    unfold secOk at hs'
    simp only [Bool.and_eq_true, decide_eq_true_eq] at hs'
    obtain ⟨N, rfl⟩ : ∃ N : Nat, x = N := ⟨x.toNat, by omega⟩
    obtain ⟨R, rfl⟩ : ∃ R : Nat, y = R := ⟨y.toNat, by omega⟩
    exact ⟨_, _, true, if_pos hs, fun _ => ⟨N, R, rfl, by omega, by omega, by omega, rfl, rfl⟩⟩
  · exact ⟨_, _, false, if_neg hs, fun h => by cases h⟩
theorem sbV_any (x : Int) : ∃ b fine, sbV x = .tuple #[.int .i64 b, .bool fine] ∧ (fine = decide (1 ≤ x ∧ x ≤ 10)) ∧ (fine = true → b = (sbT x.toNat x.toNat : Nat)) := by
  by_cases h : 1 ≤ x ∧ x ≤ 10
  · exact ⟨_, true, if_pos (decide_eq_true h), (decide_eq_true h).symm, fun _ => rfl⟩
  · exact ⟨_, false, if_neg (by rw [decide_eq_false h]; decide), (decide_eq_false h).symm, fun h => by cases h⟩
theorem rkV_any (x : Int) : ∃ r1 r2 one, rkV x = .tuple #[.agg #[.int .i64 r1, .int .i64 r2], .bool one] ∧ (one = decide (1 ≤ x ∧ x ≤ 10)) ∧ (one = true → r1 = (rkN x.toNat 0).1 ∧ r2 = (rkN x.toNat 0).2) := by
  by_cases h : 1 ≤ x ∧ x ≤ 10
  · exact ⟨_, _, true, if_pos h, (decide_eq_true h).symm, fun _ => ⟨rfl, rfl⟩⟩
  · exact ⟨_, _, false, if_neg h, (decide_eq_false h).symm, fun h => by cases h⟩
set_option maxRecDepth 100000 in
set_option maxHeartbeats 8000000 in
theorem walkSec (n c : Nat) (p : Option Addr) (W : World) (hn : n ≤ maxLen) (hnc : n ≤ c) (hB : BytesAt W W.heap.size p n) :
    Calls Try.prog 6 #[.slice p n c] W fun e W' => e = .returned (.bool true) ∧ Below W.heap.size W W' := by
  by_cases hbig : 65536 < n
  · have BG := Lib.hid (bigYes n c p W hbig hn)
    clear hbig hB
    go_enter Try.func6, Try.ntmps6
    go_wp2_with fail
    refine BG.out.mono ?_
    rintro e w0 ⟨rfl, rfl⟩
    go_wp2_with fail
    go_ret
    exact ⟨rfl, Below.refl _ _⟩
  have hn6 : n ≤ 65536 := by omega
  have BG := Lib.hid (bigNo n c p W hn6)
  have HBy := Lib.hid hB
  have DS := Lib.hid (drawSec n c p W hn6 hB)
  clear hbig hB
  go_enter Try.func6, Try.ntmps6
  go_wp2_with fail
  refine BG.out.mono ?_
  rintro e w0 ⟨rfl, rfl⟩
  go_wp2_with fail
  refine DS.out.mono ?_
  rintro e w1 ⟨⟨x, y, hx, hy, rfl⟩, b1⟩
  have D1 := Lib.hid b1
  clear b1 DS BG
  have CI := Lib.hid (fun w => secChI x y w)
  have CS := Lib.hid (fun w => secChS x y w)
  have BI := Lib.hid (fun w => secBestI x w)
  have BS := Lib.hid (fun w => secBestS x w)
  have TI := Lib.hid (fun w => sectabI x w)
  have TS := Lib.hid (fun w => sectabS2 x w)
  have RI := Lib.hid (fun w => rankI x w)
  have RS := Lib.hid (fun w => rankS x w)
  obtain ⟨c1, c2, ok, hK, HOK⟩ := scV_any x y
  rw [hK] at CI CS
  obtain ⟨bb, fine, hK2, HFI⟩ := sbV_any x
  rw [hK2] at BI BS
  obtain ⟨r1, r2, one, hK3, HON⟩ := rkV_any x
  rw [hK3] at RI RS
  obtain ⟨nq, hnq⟩ : ∃ nq, nq = stLen x := ⟨_, rfl⟩
  obtain ⟨fs, hfs⟩ : ∃ fs, fs = stL x := ⟨_, rfl⟩
  obtain ⟨th, hth⟩ : ∃ th, th = decide (1 ≤ x ∧ x ≤ 10) := ⟨_, rfl⟩
  rw [← hnq, ← hfs, ← hth] at TI TS
  have hnq9 : nq ≤ 1048576 := by rw [hnq]; exact stLen_le x
  have HTB := Lib.hid (And.intro hnq (And.intro hfs hth))
  replace HON := Lib.hid HON
  replace HOK := Lib.hid HOK
  replace HFI := Lib.hid HFI
  clear hK hK2 hK3 hnq hfs hth
  go_wp2_with fail
  refine (CI.out _).mono ?_
  rintro e w2 ⟨rfl, b2⟩
  have D2 := Lib.hid (bl_then D1.out b2)
  clear D1
  go_upto_region 5 with fail
  obtain ⟨w3, hw3⟩ : ∃ w3, w3 = w2.alloc (.cells #[.int .i64 c1, .int .i64 c2] 39) := ⟨_, rfl⟩
  have b3 : Below w2.heap.size w2 w3 := by rw [hw3]; exact (Below.refl _ _).alloc (Nat.le_refl _) _
  have D3 := Lib.hid (bl_then D2.out b3)
  clear D2
  have P3 := Lib.hid (show QBox w3 w2.heap.size c1 c2 by rw [hw3]; exact QBox.new _ _ _)
  rw [← hw3]
  clear hw3 b3
  go_wp2_with fail
  refine (CS.out _).mono ?_
  rintro e w4 ⟨rfl, b4⟩
  have D4 := Lib.hid (bl_then D3.out b4)
  clear D3
  have P4 := Lib.hid (P3.out.below b4 P3.out.lt)
  clear P3
  go_upto_region 6 with fail
  obtain ⟨w5, hw5⟩ : ∃ w5, w5 = w4.alloc (.cells #[.int .i64 c1, .int .i64 c2] 39) := ⟨_, rfl⟩
  have b5 : Below w4.heap.size w4 w5 := by rw [hw5]; exact (Below.refl _ _).alloc (Nat.le_refl _) _
  have D5 := Lib.hid (bl_then D4.out b5)
  clear D4
  have P5 := Lib.hid (P4.out.below b5 P4.out.lt)
  clear P4
  have Q5 := Lib.hid (show QBox w5 w4.heap.size c1 c2 by rw [hw5]; exact QBox.new _ _ _)
  rw [← hw5]
  clear hw5 b5
  go_wp2_with fail
  refine (BI.out _).mono ?_
  rintro e w6 ⟨rfl, b6⟩
  have D6 := Lib.hid (bl_then D5.out b6)
  clear D5
  have P6 := Lib.hid (P5.out.below b6 P5.out.lt)
  clear P5
  have Q6 := Lib.hid (Q5.out.below b6 Q5.out.lt)
  clear Q5
  go_wp2_with fail
  refine (BS.out _).mono ?_
  rintro e w7 ⟨rfl, b7⟩
  have D7 := Lib.hid (bl_then D6.out b7)
  clear D6
  have P7 := Lib.hid (P6.out.below b7 P6.out.lt)
  clear P6
  have Q7 := Lib.hid (Q6.out.below b7 Q6.out.lt)
  clear Q6
  go_wp2_with fail
  refine (TI.out _).mono ?_
  rintro e w8 ⟨ta, rfl, ot, b8⟩
  have D8 := Lib.hid (bl_then D7.out b8)
  clear D7
  have P8 := Lib.hid (P7.out.below b8 P7.out.lt)
  clear P7
  have Q8 := Lib.hid (Q7.out.below b8 Q7.out.lt)
  clear Q7
  have TA8 := Lib.hid (ot)
  clear ot
  go_wp2_with fail
  refine (TS.out _).mono ?_
  rintro e w9 ⟨tb, rfl, ot, b9⟩
  have D9 := Lib.hid (bl_then D8.out b9)
  clear D8
  have P9 := Lib.hid (P8.out.below b9 P8.out.lt)
  clear P8
  have Q9 := Lib.hid (Q8.out.below b9 Q8.out.lt)
  clear Q8
  have TA9 := Lib.hid (TA8.out.below (b9.mono TA8.out.room))
  clear TA8
  have TB9 := Lib.hid (ot)
  clear ot
  go_wp2_with fail
  refine (RI.out _).mono ?_
  rintro e w10 ⟨rfl, b10⟩
  have D10 := Lib.hid (bl_then D9.out b10)
  clear D9
  have P10 := Lib.hid (P9.out.below b10 P9.out.lt)
  clear P9
  have Q10 := Lib.hid (Q9.out.below b10 Q9.out.lt)
  clear Q9
  have TA10 := Lib.hid (TA9.out.below (b10.mono TA9.out.room))
  clear TA9
  have TB10 := Lib.hid (TB9.out.below (b10.mono TB9.out.room))
  clear TB9
  go_upto_region 11 with fail
  obtain ⟨w11, hw11⟩ : ∃ w11, w11 = w10.alloc (.cells #[.int .i64 r1, .int .i64 r2] 39) := ⟨_, rfl⟩
  have b11 : Below w10.heap.size w10 w11 := by rw [hw11]; exact (Below.refl _ _).alloc (Nat.le_refl _) _
  have D11 := Lib.hid (bl_then D10.out b11)
  clear D10
  have P11 := Lib.hid (P10.out.below b11 P10.out.lt)
  clear P10
  have Q11 := Lib.hid (Q10.out.below b11 Q10.out.lt)
  clear Q10
  have TA11 := Lib.hid (TA10.out.below (b11.mono TA10.out.room))
  clear TA10
  have TB11 := Lib.hid (TB10.out.below (b11.mono TB10.out.room))
  clear TB10
  have X11 := Lib.hid (show QBox w11 w10.heap.size r1 r2 by rw [hw11]; exact QBox.new _ _ _)
  rw [← hw11]
  clear hw11 b11
  go_wp2_with fail
  refine (RS.out _).mono ?_
  rintro e w12 ⟨rfl, b12⟩
  have D12 := Lib.hid (bl_then D11.out b12)
  clear D11
  have P12 := Lib.hid (P11.out.below b12 P11.out.lt)
  clear P11
  have Q12 := Lib.hid (Q11.out.below b12 Q11.out.lt)
  clear Q11
  have TA12 := Lib.hid (TA11.out.below (b12.mono TA11.out.room))
  clear TA11
  have TB12 := Lib.hid (TB11.out.below (b12.mono TB11.out.room))
  clear TB11
  have X12 := Lib.hid (X11.out.below b12 X11.out.lt)
  clear X11
  go_upto_region 12 with fail
  obtain ⟨w13, hw13⟩ : ∃ w13, w13 = w12.alloc (.cells #[.int .i64 r1, .int .i64 r2] 39) := ⟨_, rfl⟩
  have b13 : Below w12.heap.size w12 w13 := by rw [hw13]; exact (Below.refl _ _).alloc (Nat.le_refl _) _
  have D13 := Lib.hid (bl_then D12.out b13)
  clear D12
  have P13 := Lib.hid (P12.out.below b13 P12.out.lt)
  clear P12
  have Q13 := Lib.hid (Q12.out.below b13 Q12.out.lt)
  clear Q12
  have TA13 := Lib.hid (TA12.out.below (b13.mono TA12.out.room))
  clear TA12
  have TB13 := Lib.hid (TB12.out.below (b13.mono TB12.out.room))
  clear TB12
  have X13 := Lib.hid (X12.out.below b13 X12.out.lt)
  clear X12
  have Y13 := Lib.hid (show QBox w13 w12.heap.size r1 r2 by rw [hw13]; exact QBox.new _ _ _)
  rw [← hw13]
  clear hw13 b13
  have CV := Lib.hid (cutAny n c p w13 hn6 hnc ((bytes_below HBy.out D13.out).more D13.out.size))
  go_wp2_with fail
  refine (CV.out).mono ?_
  rintro e w14 ⟨cg, cm, cc, rfl, hcm, hcc, cby, b14⟩
  have D14 := Lib.hid (bl_then D13.out b14)
  clear D13
  have P14 := Lib.hid (P13.out.below b14 P13.out.lt)
  clear P13
  have Q14 := Lib.hid (Q13.out.below b14 Q13.out.lt)
  clear Q13
  have TA14 := Lib.hid (TA13.out.below (b14.mono TA13.out.room))
  clear TA13
  have TB14 := Lib.hid (TB13.out.below (b14.mono TB13.out.room))
  clear TB13
  have X14 := Lib.hid (X13.out.below b14 X13.out.lt)
  clear X13
  have Y14 := Lib.hid (Y13.out.below b14 Y13.out.lt)
  clear Y13
  have DW := Lib.hid (drawWins cm cc (some ⟨cg, 0, none⟩) w14 hcm cby)
  clear CV cby
  go_wp2_with fail
  refine (DW.out).mono ?_
  rintro e w15 ⟨⟨m, s, hm, hs, rfl⟩, b15⟩
  have D15 := Lib.hid (bl_then D14.out b15)
  clear D14
  have P15 := Lib.hid (P14.out.below b15 P14.out.lt)
  clear P14
  have Q15 := Lib.hid (Q14.out.below b15 Q14.out.lt)
  clear Q14
  have TA15 := Lib.hid (TA14.out.below (b15.mono TA14.out.room))
  clear TA14
  have TB15 := Lib.hid (TB14.out.below (b15.mono TB14.out.room))
  clear TB14
  have X15 := Lib.hid (X14.out.below b15 X14.out.lt)
  clear X14
  have Y15 := Lib.hid (Y14.out.below b15 Y14.out.lt)
  clear Y14
  clear DW
  have WI := Lib.hid (fun w => countI m s w)
  have WS := Lib.hid (fun w => countS m s w)
  obtain ⟨wn, two, hK4, HTW⟩ := cwV_in m s
  rw [hK4] at WI WS
  replace HTW := Lib.hid HTW
  clear hK4
  go_wp2_with fail
  refine (WI.out _).mono ?_
  rintro e w16 ⟨rfl, b16⟩
  have D16 := Lib.hid (bl_then D15.out b16)
  clear D15
  have P16 := Lib.hid (P15.out.below b16 P15.out.lt)
  clear P15
  have Q16 := Lib.hid (Q15.out.below b16 Q15.out.lt)
  clear Q15
  have TA16 := Lib.hid (TA15.out.below (b16.mono TA15.out.room))
  clear TA15
  have TB16 := Lib.hid (TB15.out.below (b16.mono TB15.out.room))
  clear TB15
  have X16 := Lib.hid (X15.out.below b16 X15.out.lt)
  clear X15
  have Y16 := Lib.hid (Y15.out.below b16 Y15.out.lt)
  clear Y15
  go_wp2_with fail
  refine (WS.out _).mono ?_
  rintro e w17 ⟨rfl, b17⟩
  have D17 := Lib.hid (bl_then D16.out b17)
  clear D16
  have P17 := Lib.hid (P16.out.below b17 P16.out.lt)
  clear P16
  have Q17 := Lib.hid (Q16.out.below b17 Q16.out.lt)
  clear Q16
  have TA17 := Lib.hid (TA16.out.below (b17.mono TA16.out.room))
  clear TA16
  have TB17 := Lib.hid (TB16.out.below (b17.mono TB16.out.room))
  clear TB16
  have X17 := Lib.hid (X16.out.below b17 X16.out.lt)
  clear X16
  have Y17 := Lib.hid (Y16.out.below b17 Y16.out.lt)
  clear Y16
  obtain ⟨⟨p0, p1⟩, _, _⟩ := P17.out.cells
  obtain ⟨⟨q0, q1⟩, _, _⟩ := Q17.out.cells
  have ec := fun w => eq_pair c1 c2 w
  have PV := Lib.hid (pairsV nq fs ta tb _ _ _ _ w17 hnq9 TA17.out TB17.out)
  go_wp2_with fail
  refine (PV.out).mono ?_
  rintro e w18 ⟨rfl, b18⟩
  have D18 := Lib.hid (bl_then D17.out b18)
  clear D17
  have P18 := Lib.hid (P17.out.below b18 P17.out.lt)
  clear P17
  have Q18 := Lib.hid (Q17.out.below b18 Q17.out.lt)
  clear Q17
  have TA18 := Lib.hid (TA17.out.below (b18.mono TA17.out.room))
  clear TA17
  have TB18 := Lib.hid (TB17.out.below (b18.mono TB17.out.room))
  clear TB17
  have X18 := Lib.hid (X17.out.below b18 X17.out.lt)
  clear X17
  have Y18 := Lib.hid (Y17.out.below b18 Y17.out.lt)
  clear Y17
  obtain ⟨⟨x0, x1⟩, _, _⟩ := X18.out.cells
  obtain ⟨⟨y0, y1⟩, _, _⟩ := Y18.out.cells
  clear p0 p1 q0 q1 PV
  have er := fun w => eq_pair r1 r2 w
  go_upto_region 17 with fail
  clear x0 x1 y0 y1 WI WS CI CS BI BS TI TS RI RS
  cases two
  · by_cases hx9 : 1 ≤ x ∧ x ≤ 10
    · obtain ⟨N, hN⟩ : ∃ N : Nat, x = N := ⟨x.toNat, by omega⟩
      have hN1 : 1 ≤ N := by omega
      have hN2 : N < 11 := by omega
      obtain rfl : fine = true := by rw [HFI.out.1, decide_eq_true hx9]
      obtain rfl : one = true := by rw [HON.out.1, decide_eq_true hx9]
      obtain rfl : th = true := by rw [HTB.out.2.2, decide_eq_true hx9]
      have hxn : x.toNat = N := by omega
      have eb : bb = (sbT N N : Nat) := by have := HFI.out.2 rfl; rw [hxn] at this; exact this
      have er1 : r1 = (rkN N 0).1 := by have := (HON.out.2 rfl).1; rw [hxn] at this; exact this
      have er2 : r2 = (rkN N 0).2 := by have := (HON.out.2 rfl).2; rw [hxn] at this; exact this
      have enq : nq = N + 1 := by rw [HTB.out.1, stLen, if_pos hx9, hxn]
      have efs : fs = prL (stA N) (stB N) (N + 1) := by rw [HTB.out.2.1, stL, if_pos hx9, hxn]
      obtain ⟨gt, gc, rfl, hgt1, hgt2⟩ := TA18.out.shape (by omega)
      have hsb := sb_lt N hN2 N hN2 hN1 (Nat.le_refl _)
      have rb := sb_bd (rk5 N hN2 0 (by omega))
      have sco := sc_ok N hN2 (sbT N N) (by omega) hsb
      have LV1 := Lib.hid (fun w => show Calls Try.prog 55 #[.agg #[.int .i64 r1, .int .i64 r2], .agg #[.int .i64 1, .int .i64 1]] w (Gives (.bool false) w) from by
        have := lessV r1 r2 1 1 w (by rw [er1]; omega) (by rw [er2]; omega)
        rw [decide_eq_false (by rw [er1, er2]; exact sf_low N hN2 hN1)] at this
        exact this)
      have LV2 := Lib.hid (fun w => show Calls Try.prog 55 #[.agg #[.int .i64 (x + 1), .int .i64 2], .agg #[.int .i64 r1, .int .i64 r2]] w (Gives (.bool false) w) from by
        have m2 := mul_bd9 (a := x + 1) (b := r2) (by omega) (by rw [er2]; omega)
        have := lessV (x + 1) 2 r1 r2 w (by omega) (by rw [er1]; omega)
        rw [decide_eq_false (by rw [er1, er2, hN]; exact sf_high N hN2 hN1)] at this
        exact this)
      obtain ⟨t1, ht1⟩ : ∃ t1, t1 = scN N (sbT N N) := ⟨_, rfl⟩
      obtain ⟨t2, ht2⟩ : ∃ t2, t2 = scD N (sbT N N) := ⟨_, rfl⟩
      have TC := Lib.hid (fun w => show Calls Try.prog 43 #[.int .i64 x, .int .i64 bb] w (Gives (.tuple #[.agg #[.int .i64 t1, .int .i64 t2], .bool true]) w) from by
        have := secChI x bb w
        rw [hN, eb, scV_nat ⟨hN1, by omega⟩ hsb, ← ht1, ← ht2] at this
        rw [hN, eb]
        exact this)
      have LV3 := Lib.hid (fun (hok : ok = true) w => show Calls Try.prog 55 #[.agg #[.int .i64 t1, .int .i64 t2], .agg #[.int .i64 c1, .int .i64 c2]] w (Gives (.bool false) w) from by
        obtain ⟨N', R, hN', _, _, hR, hc1, hc2⟩ := HOK.out hok
        obtain rfl : N' = N := by omega
        have sr := sc_ok N' hN2 R (by omega) hR
        have a1 := mul_bd9 (a := t1) (b := c2) (by rw [ht1]; omega) (by rw [hc2]; omega)
        have a2 := mul_bd9 (a := c1) (b := t2) (by rw [hc1]; omega) (by rw [ht2]; omega)
        have := lessV t1 t2 c1 c2 w (by omega) (by omega)
        rw [decide_eq_false (by rw [ht1, ht2, hc1, hc2]; exact sf_best N' hN2 R hR)] at this
        exact this)
      have F0 : fs.getD 0 0 = t1 ∧ fs.getD 1 0 = t2 := by
        have h1 := prL_at (stA N) (stB N) (k := N + 1) (j := 0) (by omega)
        have h2 := sf_first N hN2 hN1
        rw [efs, ht1, ht2]
        have e1 : (sV N 0).1 = scN N (sbT N N) := by rw [h2]
        have e2 : (sV N 0).2 = scD N (sbT N N) := by rw [h2]
        exact ⟨h1.1.trans e1, h1.2.trans e2⟩
      have hnq1 : 0 < nq := by omega
      have hnq2 : (0 : Int) < (nq : Int) := by omega
      have hx1 : x + 1 ≤ 11 := by omega
      have hx2 : 1 ≤ x := by omega
      have HF0 := Lib.hid F0
      clear HFI HON HTB HOK ht1 ht2 eb er1 er2 enq efs hxn hN hsb rb sco F0 hx9
      obtain ⟨⟨x0, x1⟩, _, _⟩ := X18.out.cells
      go_wp2_with fail
      refine (LV1.out _).mono ?_
      rintro e w19 ⟨rfl, b19⟩
      have D19 := Lib.hid (bl_then D18.out b19)
      clear D18
      have P19 := Lib.hid (P18.out.below b19 P18.out.lt)
      clear P18
      have TA19 := Lib.hid (TA18.out.below (b19.mono TA18.out.room))
      clear TA18
      have X19 := Lib.hid (X18.out.below b19 X18.out.lt)
      clear X18
      clear x0 x1
      obtain ⟨⟨x0, x1⟩, _, _⟩ := X19.out.cells
      go_wp2_with fail
      refine (LV2.out _).mono ?_
      rintro e w20 ⟨rfl, b20⟩
      have D20 := Lib.hid (bl_then D19.out b20)
      clear D19
      have P20 := Lib.hid (P19.out.below b20 P19.out.lt)
      clear P19
      have TA20 := Lib.hid (TA19.out.below (b20.mono TA19.out.room))
      clear TA19
      have X20 := Lib.hid (X19.out.below b20 X19.out.lt)
      clear X19
      clear x0 x1
      go_wp2_with fail
      refine (TC.out _).mono ?_
      rintro e w21 ⟨rfl, b21⟩
      have D21 := Lib.hid (bl_then D20.out b21)
      clear D20
      have P21 := Lib.hid (P20.out.below b21 P20.out.lt)
      clear P20
      have TA21 := Lib.hid (TA20.out.below (b21.mono TA20.out.room))
      clear TA20
      have X21 := Lib.hid (X20.out.below b21 X20.out.lt)
      clear X20
      go_upto_region 31 with fail
      obtain ⟨w22, hw22⟩ : ∃ w22, w22 = w21.alloc (.cells #[.int .i64 t1, .int .i64 t2] 39) := ⟨_, rfl⟩
      have b22 : Below w21.heap.size w21 w22 := by rw [hw22]; exact (Below.refl _ _).alloc (Nat.le_refl _) _
      have D22 := Lib.hid (bl_then D21.out b22)
      clear D21
      have P22 := Lib.hid (P21.out.below b22 P21.out.lt)
      clear P21
      have TA22 := Lib.hid (TA21.out.below (b22.mono TA21.out.room))
      clear TA21
      have X22 := Lib.hid (X21.out.below b22 X21.out.lt)
      clear X21
      have Z22 := Lib.hid (show QBox w22 w21.heap.size t1 t2 by rw [hw22]; exact QBox.new _ _ _)
      rw [← hw22]
      clear hw22 b22
      obtain ⟨⟨z0, z1⟩, _, _⟩ := Z22.out.cells
      obtain ⟨⟨p0, p1⟩, _, _⟩ := P22.out.cells
      have et := fun w => eq_pair t1 t2 w
      cases ok
      · have u0 := TA22.out.cellGet (j := 0) (by omega)
        have u1 := TA22.out.cellGet (j := 1) (by omega)
        rw [HF0.out.1] at u0
        rw [HF0.out.2] at u1
        have u0' : w22.drew.cell? ⟨gt, 0, none⟩ = some (.int .i64 t1) := u0
        have u1' : w22.drew.cell? ⟨gt, 1, none⟩ = some (.int .i64 t2) := u1
        have z0' : w22.drew.cell? ⟨_, 0, none⟩ = some (.int .i64 t1) := z0
        have z1' : w22.drew.cell? ⟨_, 1, none⟩ = some (.int .i64 t2) := z1
        go_upto_region 33 with fail
        go_quiet (fail)
        all_goals
          go_wp2_with fail
          go_ret
          first
            | exact ⟨rfl, D22.out⟩
            | exact ⟨rfl, below_drew D22.out⟩
            | exact ⟨rfl, below_drewN D22.out _⟩
            | (trace_state; sorry)
      · go_wp2_with fail
        refine (LV3.out (by simp) _).mono ?_
        rintro e w23 ⟨rfl, b23⟩
        have D23 := Lib.hid (bl_then D22.out b23)
        clear D22
        have P23 := Lib.hid (P22.out.below b23 P22.out.lt)
        clear P22
        have TA23 := Lib.hid (TA22.out.below (b23.mono TA22.out.room))
        clear TA22
        have X23 := Lib.hid (X22.out.below b23 X22.out.lt)
        clear X22
        have Z23 := Lib.hid (Z22.out.below b23 Z22.out.lt)
        clear Z22
        clear z0 z1 p0 p1
        obtain ⟨⟨z0, z1⟩, _, _⟩ := Z23.out.cells
        have u0 := TA23.out.cellGet (j := 0) (by omega)
        have u1 := TA23.out.cellGet (j := 1) (by omega)
        rw [HF0.out.1] at u0
        rw [HF0.out.2] at u1
        have u0' : w23.drew.cell? ⟨gt, 0, none⟩ = some (.int .i64 t1) := u0
        have u1' : w23.drew.cell? ⟨gt, 1, none⟩ = some (.int .i64 t2) := u1
        have z0' : w23.drew.cell? ⟨_, 0, none⟩ = some (.int .i64 t1) := z0
        have z1' : w23.drew.cell? ⟨_, 1, none⟩ = some (.int .i64 t2) := z1
        go_upto_region 33 with fail
        go_quiet (fail)
        all_goals
          go_wp2_with fail
          go_ret
          first
            | exact ⟨rfl, D23.out⟩
            | exact ⟨rfl, below_drew D23.out⟩
            | exact ⟨rfl, below_drewN D23.out _⟩
            | (trace_state; sorry)
    · obtain rfl : fine = false := by rw [HFI.out.1, decide_eq_false hx9]
      obtain rfl : one = false := by rw [HON.out.1, decide_eq_false hx9]
      obtain rfl : ok = false := by
        cases ok
        · rfl
        · obtain ⟨N', R, hN', h1, h2, _⟩ := HOK.out rfl
          omega
      go_wp2_with fail
      go_ret
      exact ⟨rfl, D18.out⟩
  · obtain ⟨M, S, hM, hS, hM1, hM7, hSM, hwn⟩ := HTW.out rfl
    have FB := Lib.hid (fun j (hj : j < 8) => fac_bd j hj)
    have FS := Lib.hid (fun j => show facN (j + 1) = facN j * (j + 1) from rfl)
    have F1 := Lib.hid (show facN 1 = 1 from rfl)
    have sco := sc_ok M (by omega) S (by omega) hSM
    have TOL := Lib.hid (fun w => show Calls Try.prog 43 #[.int .i64 m, .int .i64 s] w (Gives (.tuple #[.agg #[.int .i64 (scN M S), .int .i64 (scD M S)], .bool true]) w) from by
      have := secChI m s w
      rw [hM, hS, scV_nat ⟨hM1, by omega⟩ hSM] at this
      rw [hM, hS]
      exact this)
    have EQ := Lib.hid (show scN M S * facN M = wn * scD M S by rw [hwn]; exact sf_wins hM7 hSM)
    have FM := fac_bd M (by omega)
    have a1 : 0 ≤ scN M S * facN M ∧ scN M S * facN M ≤ 25200 * 5040 := ⟨Int.mul_nonneg (by omega) (by omega), Int.mul_le_mul (by omega) (by omega) (by omega) (by omega)⟩
    obtain ⟨q1, hq1⟩ : ∃ q1, q1 = scN M S := ⟨_, rfl⟩
    obtain ⟨q2, hq2⟩ : ∃ q2, q2 = scD M S := ⟨_, rfl⟩
    rw [← hq1, ← hq2] at TOL EQ
    rw [← hq1] at a1
    clear hq1 hq2 sco hwn hS hSM HTW
    have HMm := Lib.hid hM
    have m1 : 1 ≤ m := by omega
    have m2 : m ≤ 7 := by omega
    clear hM
    go_wp2_with fail
    go_loopg [27, 28] M (fun gg s27 s28 wr => wr = w18 ∧ ∃ k : Nat, 2 ≤ k ∧ k ≤ M + 1 ∧ M + 1 - k ≤ gg ∧ s28 = .int .i64 k ∧ s27 = .int .i64 (facN (k - 1) : Nat))
    case atStart => exact ⟨rfl, 2, by omega, by omega, by omega, rfl, by rfl⟩
    case round =>
      obtain ⟨rfl, k, hk2, hkM, hgg, rfl, rfl⟩ := hrel
      by_cases hlt : k ≤ M
      · have i1 : (k : Int) ≤ m := by rw [HMm.out]; omega
        have fs1 := FS.out (k - 1)
        rw [show k - 1 + 1 = k by omega] at fs1
        have fb := FB.out (k - 1) (by omega)
        have fb2 := FB.out k (by omega)
        have W1 : IntKind.i64.wrap ((facN (k - 1) : Int) * (k : Int)) = (facN (k - 1) : Int) * (k : Int) := IntWalk.i64_in _ (by
          have : ((facN (k - 1) : Int) * (k : Int)) = ((facN k : Nat) : Int) := by rw [fs1]; push_cast; rfl
          omega)
        have ek : ((facN (k - 1) : Int) * (k : Int)) = ((facN k : Nat) : Int) := by rw [fs1]; push_cast; rfl
        have EK := Lib.hid ek
        clear ek fs1 fb fb2
        go_wp2_with fail
        go_roundg (M + 1 - (k + 1))
        case rel => exact ⟨rfl, k + 1, by omega, by omega, by omega, by go_num, by rw [EK.out]; rfl⟩
        case measure => omega
      · have hk9 : k = M + 1 := by omega
        have i1 : ¬ (k : Int) ≤ m := by rw [HMm.out]; omega
        rw [show k - 1 = M by omega]
        have W1 : IntKind.i64.wrap (q1 * (facN M : Int)) = q1 * (facN M : Int) := IntWalk.i64_in _ (by omega)
        have W2 : IntKind.i64.wrap (wn * q2) = wn * q2 := IntWalk.i64_in _ (by rw [← EQ.out]; omega)
        obtain ⟨A, hA⟩ : ∃ A : Int, A = (facN M : Nat) := ⟨_, rfl⟩
        rw [← hA] at W1 EQ ⊢
        obtain ⟨PQ, hPQ⟩ : ∃ PQ, PQ = wn * q2 := ⟨_, rfl⟩
        have W1x : IntKind.i64.wrap (q1 * A) = PQ := by rw [W1, EQ.out, hPQ]
        have W2x : IntKind.i64.wrap (wn * q2) = PQ := by rw [W2, hPQ]
        clear W1 W2
        clear hA hPQ a1 FM FB FS F1
        go_wp2_with fail
        refine (TOL.out _).mono ?_
        rintro e w19 ⟨rfl, b19⟩
        have D19 := Lib.hid (bl_then D18.out b19)
        clear D18
        have P19 := Lib.hid (P18.out.below b19 P18.out.lt)
        clear P18
        have Q19 := Lib.hid (Q18.out.below b19 Q18.out.lt)
        clear Q18
        have TA19 := Lib.hid (TA18.out.below (b19.mono TA18.out.room))
        clear TA18
        have TB19 := Lib.hid (TB18.out.below (b19.mono TB18.out.room))
        clear TB18
        have X19 := Lib.hid (X18.out.below b19 X18.out.lt)
        clear X18
        have Y19 := Lib.hid (Y18.out.below b19 Y18.out.lt)
        clear Y18
        go_upto_region 24 with fail
        obtain ⟨w20, hw20⟩ : ∃ w20, w20 = w19.alloc (.cells #[.int .i64 q1, .int .i64 q2] 39) := ⟨_, rfl⟩
        have b20 : Below w19.heap.size w19 w20 := by rw [hw20]; exact (Below.refl _ _).alloc (Nat.le_refl _) _
        have D20 := Lib.hid (bl_then D19.out b20)
        clear D19
        have P20 := Lib.hid (P19.out.below b20 P19.out.lt)
        clear P19
        have Q20 := Lib.hid (Q19.out.below b20 Q19.out.lt)
        clear Q19
        have TA20 := Lib.hid (TA19.out.below (b20.mono TA19.out.room))
        clear TA19
        have TB20 := Lib.hid (TB19.out.below (b20.mono TB19.out.room))
        clear TB19
        have X20 := Lib.hid (X19.out.below b20 X19.out.lt)
        clear X19
        have Y20 := Lib.hid (Y19.out.below b20 Y19.out.lt)
        clear Y19
        have U20 := Lib.hid (show QBox w20 w19.heap.size q1 q2 by rw [hw20]; exact QBox.new _ _ _)
        rw [← hw20]
        clear hw20 b20
        obtain ⟨⟨v0, v1⟩, _, _⟩ := U20.out.cells
        go_upto_region 26 with fail
        clear v0 v1 W1x W2x
        clear U20
        by_cases hx9 : 1 ≤ x ∧ x ≤ 10
        · obtain ⟨N, hN⟩ : ∃ N : Nat, x = N := ⟨x.toNat, by omega⟩
          have hN1 : 1 ≤ N := by omega
          have hN2 : N < 11 := by omega
          obtain rfl : fine = true := by rw [HFI.out.1, decide_eq_true hx9]
          obtain rfl : one = true := by rw [HON.out.1, decide_eq_true hx9]
          obtain rfl : th = true := by rw [HTB.out.2.2, decide_eq_true hx9]
          have hxn : x.toNat = N := by omega
          have eb : bb = (sbT N N : Nat) := by have := HFI.out.2 rfl; rw [hxn] at this; exact this
          have er1 : r1 = (rkN N 0).1 := by have := (HON.out.2 rfl).1; rw [hxn] at this; exact this
          have er2 : r2 = (rkN N 0).2 := by have := (HON.out.2 rfl).2; rw [hxn] at this; exact this
          have enq : nq = N + 1 := by rw [HTB.out.1, stLen, if_pos hx9, hxn]
          have efs : fs = prL (stA N) (stB N) (N + 1) := by rw [HTB.out.2.1, stL, if_pos hx9, hxn]
          obtain ⟨gt, gc, rfl, hgt1, hgt2⟩ := TA20.out.shape (by omega)
          have hsb := sb_lt N hN2 N hN2 hN1 (Nat.le_refl _)
          have rb := sb_bd (rk5 N hN2 0 (by omega))
          have sco := sc_ok N hN2 (sbT N N) (by omega) hsb
          have LV1 := Lib.hid (fun w => show Calls Try.prog 55 #[.agg #[.int .i64 r1, .int .i64 r2], .agg #[.int .i64 1, .int .i64 1]] w (Gives (.bool false) w) from by
            have := lessV r1 r2 1 1 w (by rw [er1]; omega) (by rw [er2]; omega)
            rw [decide_eq_false (by rw [er1, er2]; exact sf_low N hN2 hN1)] at this
            exact this)
          have LV2 := Lib.hid (fun w => show Calls Try.prog 55 #[.agg #[.int .i64 (x + 1), .int .i64 2], .agg #[.int .i64 r1, .int .i64 r2]] w (Gives (.bool false) w) from by
            have m2 := mul_bd9 (a := x + 1) (b := r2) (by omega) (by rw [er2]; omega)
            have := lessV (x + 1) 2 r1 r2 w (by omega) (by rw [er1]; omega)
            rw [decide_eq_false (by rw [er1, er2, hN]; exact sf_high N hN2 hN1)] at this
            exact this)
          obtain ⟨t1, ht1⟩ : ∃ t1, t1 = scN N (sbT N N) := ⟨_, rfl⟩
          obtain ⟨t2, ht2⟩ : ∃ t2, t2 = scD N (sbT N N) := ⟨_, rfl⟩
          have TC := Lib.hid (fun w => show Calls Try.prog 43 #[.int .i64 x, .int .i64 bb] w (Gives (.tuple #[.agg #[.int .i64 t1, .int .i64 t2], .bool true]) w) from by
            have := secChI x bb w
            rw [hN, eb, scV_nat ⟨hN1, by omega⟩ hsb, ← ht1, ← ht2] at this
            rw [hN, eb]
            exact this)
          have LV3 := Lib.hid (fun (hok : ok = true) w => show Calls Try.prog 55 #[.agg #[.int .i64 t1, .int .i64 t2], .agg #[.int .i64 c1, .int .i64 c2]] w (Gives (.bool false) w) from by
            obtain ⟨N', R, hN', _, _, hR, hc1, hc2⟩ := HOK.out hok
            obtain rfl : N' = N := by omega
            have sr := sc_ok N' hN2 R (by omega) hR
            have a1 := mul_bd9 (a := t1) (b := c2) (by rw [ht1]; omega) (by rw [hc2]; omega)
            have a2 := mul_bd9 (a := c1) (b := t2) (by rw [hc1]; omega) (by rw [ht2]; omega)
            have := lessV t1 t2 c1 c2 w (by omega) (by omega)
            rw [decide_eq_false (by rw [ht1, ht2, hc1, hc2]; exact sf_best N' hN2 R hR)] at this
            exact this)
          have F0 : fs.getD 0 0 = t1 ∧ fs.getD 1 0 = t2 := by
            have h1 := prL_at (stA N) (stB N) (k := N + 1) (j := 0) (by omega)
            have h2 := sf_first N hN2 hN1
            rw [efs, ht1, ht2]
            have e1 : (sV N 0).1 = scN N (sbT N N) := by rw [h2]
            have e2 : (sV N 0).2 = scD N (sbT N N) := by rw [h2]
            exact ⟨h1.1.trans e1, h1.2.trans e2⟩
          have hnq1 : 0 < nq := by omega
          have hnq2 : (0 : Int) < (nq : Int) := by omega
          have hx1 : x + 1 ≤ 11 := by omega
          have hx2 : 1 ≤ x := by omega
          have HF0 := Lib.hid F0
          clear HFI HON HTB HOK ht1 ht2 eb er1 er2 enq efs hxn hN hsb rb sco F0 hx9
          obtain ⟨⟨x0, x1⟩, _, _⟩ := X20.out.cells
          go_wp2_with fail
          refine (LV1.out _).mono ?_
          rintro e w21 ⟨rfl, b21⟩
          have D21 := Lib.hid (bl_then D20.out b21)
          clear D20
          have P21 := Lib.hid (P20.out.below b21 P20.out.lt)
          clear P20
          have TA21 := Lib.hid (TA20.out.below (b21.mono TA20.out.room))
          clear TA20
          have X21 := Lib.hid (X20.out.below b21 X20.out.lt)
          clear X20
          clear x0 x1
          obtain ⟨⟨x0, x1⟩, _, _⟩ := X21.out.cells
          go_wp2_with fail
          refine (LV2.out _).mono ?_
          rintro e w22 ⟨rfl, b22⟩
          have D22 := Lib.hid (bl_then D21.out b22)
          clear D21
          have P22 := Lib.hid (P21.out.below b22 P21.out.lt)
          clear P21
          have TA22 := Lib.hid (TA21.out.below (b22.mono TA21.out.room))
          clear TA21
          have X22 := Lib.hid (X21.out.below b22 X21.out.lt)
          clear X21
          clear x0 x1
          go_wp2_with fail
          refine (TC.out _).mono ?_
          rintro e w23 ⟨rfl, b23⟩
          have D23 := Lib.hid (bl_then D22.out b23)
          clear D22
          have P23 := Lib.hid (P22.out.below b23 P22.out.lt)
          clear P22
          have TA23 := Lib.hid (TA22.out.below (b23.mono TA22.out.room))
          clear TA22
          have X23 := Lib.hid (X22.out.below b23 X22.out.lt)
          clear X22
          go_upto_region 31 with fail
          obtain ⟨w24, hw24⟩ : ∃ w24, w24 = w23.alloc (.cells #[.int .i64 t1, .int .i64 t2] 39) := ⟨_, rfl⟩
          have b24 : Below w23.heap.size w23 w24 := by rw [hw24]; exact (Below.refl _ _).alloc (Nat.le_refl _) _
          have D24 := Lib.hid (bl_then D23.out b24)
          clear D23
          have P24 := Lib.hid (P23.out.below b24 P23.out.lt)
          clear P23
          have TA24 := Lib.hid (TA23.out.below (b24.mono TA23.out.room))
          clear TA23
          have X24 := Lib.hid (X23.out.below b24 X23.out.lt)
          clear X23
          have Z24 := Lib.hid (show QBox w24 w23.heap.size t1 t2 by rw [hw24]; exact QBox.new _ _ _)
          rw [← hw24]
          clear hw24 b24
          obtain ⟨⟨z0, z1⟩, _, _⟩ := Z24.out.cells
          obtain ⟨⟨p0, p1⟩, _, _⟩ := P24.out.cells
          have et := fun w => eq_pair t1 t2 w
          cases ok
          · have u0 := TA24.out.cellGet (j := 0) (by omega)
            have u1 := TA24.out.cellGet (j := 1) (by omega)
            rw [HF0.out.1] at u0
            rw [HF0.out.2] at u1
            have u0' : w24.drew.cell? ⟨gt, 0, none⟩ = some (.int .i64 t1) := u0
            have u1' : w24.drew.cell? ⟨gt, 1, none⟩ = some (.int .i64 t2) := u1
            have z0' : w24.drew.cell? ⟨_, 0, none⟩ = some (.int .i64 t1) := z0
            have z1' : w24.drew.cell? ⟨_, 1, none⟩ = some (.int .i64 t2) := z1
            go_upto_region 33 with fail
            go_quiet (fail)
            all_goals
              go_wp2_with fail
              go_ret
              first
                | exact ⟨rfl, D24.out⟩
                | exact ⟨rfl, below_drew D24.out⟩
                | exact ⟨rfl, below_drewN D24.out _⟩
                | (trace_state; sorry)
          · go_wp2_with fail
            refine (LV3.out (by simp) _).mono ?_
            rintro e w25 ⟨rfl, b25⟩
            have D25 := Lib.hid (bl_then D24.out b25)
            clear D24
            have P25 := Lib.hid (P24.out.below b25 P24.out.lt)
            clear P24
            have TA25 := Lib.hid (TA24.out.below (b25.mono TA24.out.room))
            clear TA24
            have X25 := Lib.hid (X24.out.below b25 X24.out.lt)
            clear X24
            have Z25 := Lib.hid (Z24.out.below b25 Z24.out.lt)
            clear Z24
            clear z0 z1 p0 p1
            obtain ⟨⟨z0, z1⟩, _, _⟩ := Z25.out.cells
            have u0 := TA25.out.cellGet (j := 0) (by omega)
            have u1 := TA25.out.cellGet (j := 1) (by omega)
            rw [HF0.out.1] at u0
            rw [HF0.out.2] at u1
            have u0' : w25.drew.cell? ⟨gt, 0, none⟩ = some (.int .i64 t1) := u0
            have u1' : w25.drew.cell? ⟨gt, 1, none⟩ = some (.int .i64 t2) := u1
            have z0' : w25.drew.cell? ⟨_, 0, none⟩ = some (.int .i64 t1) := z0
            have z1' : w25.drew.cell? ⟨_, 1, none⟩ = some (.int .i64 t2) := z1
            go_upto_region 33 with fail
            go_quiet (fail)
            all_goals
              go_wp2_with fail
              go_ret
              first
                | exact ⟨rfl, D25.out⟩
                | exact ⟨rfl, below_drew D25.out⟩
                | exact ⟨rfl, below_drewN D25.out _⟩
                | (trace_state; sorry)
        · obtain rfl : fine = false := by rw [HFI.out.1, decide_eq_false hx9]
          obtain rfl : one = false := by rw [HON.out.1, decide_eq_false hx9]
          obtain rfl : ok = false := by
            cases ok
            · rfl
            · obtain ⟨N', R, hN', h1, h2, _⟩ := HOK.out rfl
              omega
          go_wp2_with fail
          go_ret
          exact ⟨rfl, D20.out⟩
end Go.Proofs.Ytnpiciabpgkiiad
