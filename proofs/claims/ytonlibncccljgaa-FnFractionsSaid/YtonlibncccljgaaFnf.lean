/- The walk of the law of fractions. -/
import Derived.Test.YtonlibncccljgaaDrawF
import Derived.Test.YtonlibncccljgaaFrx
import Derived.Test.YtonlibncccljgaaFracD
import Derived.Test.YtonlibncccljgaaFracV
import Derived.Test.YtonlibncccljgaaFracW
import Derived.Test.YtonlibncccljgaaEqPr
namespace Go.Proofs.Ytonlibncccljgaa
open Go.RowKit
set_option linter.unusedVariables false
theorem fBW_next {W Wc w1 : World} (b1 : Below Wc.heap.size Wc w1) (hA : Below W.heap.size W Wc) : Below W.heap.size W w1 := hA.trans (b1.mono hA.size)
theorem and2b {A B D : Prop} (h : D → A ∧ B) (d : D) : A ∧ B ∧ D := ⟨(h d).1, (h d).2, d⟩
theorem rBigM (n c : Nat) (p : Option Addr) (w : World) (b : Bool) (hb : b = decide (65536 < n)) : Calls Try.prog 41 #[.slice p n c] w fun e w' => e = .returned (.bool b) ∧ Below w.heap.size w w' := by
  cases b
  · have h1 : ¬ ((n : Int) > 65536) := by have := of_decide_eq_false hb.symm; omega
    clear hb
    go_enter Try.func41, Try.ntmps41
    go_wp2
    go_ret
    exact ⟨rfl, Below.refl _ _⟩
  · have h1 : ((n : Int) > 65536) := by have := of_decide_eq_true hb.symm; omega
    clear hb
    go_enter Try.func41, Try.ntmps41
    go_wp2
    go_ret
    exact ⟨rfl, Below.refl _ _⟩
set_option maxRecDepth 100000 in
set_option maxHeartbeats 8000000 in
theorem walkF (n c : Nat) (p : Option Addr) (W : World) (hB : BytesAt W W.heap.size p n) :
    Calls Try.prog 11 #[.slice p n c] W fun e W' => e = .returned (.bool true) ∧ Below W.heap.size W W' := by
  have BB := Lib.hid hB
  clear hB
  obtain ⟨bg, hbg⟩ : ∃ b, b = decide (65536 < n) := ⟨_, rfl⟩
  have E := Lib.hid (fun w => rBigM n c p w bg hbg)
  cases bg
  · have hn : n ≤ 65536 := by have := of_decide_eq_false hbg.symm; omega
    clear hbg
    have B0 := Lib.hid (Below.refl W.heap.size W)
    obtain ⟨w0, hw0⟩ : ∃ w0, w0 = W := ⟨_, rfl⟩
    go_enter Try.func11, Try.ntmps11
    go_wp2_with fail
    rw [← hw0]
    rw [show Hid (Below W.heap.size W W) = Hid (Below W.heap.size W w0) by rw [hw0]] at B0
    refine (E.out w0).mono ?_
    rintro e w1 ⟨rfl, b9⟩
    clear hw0 E
    have B1 := Lib.hid (B0.out.trans (b9.mono B0.out.size))
    clear b9 B0
    go_wp2_with fail
    refine (drawAddF n c p _ hn ((BB.out.turned (Nat.le_refl _) (grown_below B1.out _)).more B1.out.size)).mono ?_
    rintro e w2 ⟨⟨x, y, z, t, rfl⟩, b9⟩
    have B2 := Lib.hid (B1.out.trans (b9.mono B1.out.size))
    clear  B1
    clear b9
    obtain ⟨w3, hw3⟩ : ∃ w3, w3 = w2.alloc (.cells #[.int .i64 x, .int .i64 y] 55) := ⟨_, rfl⟩
    have b9 : Below w2.heap.size w2 w3 := by rw [hw3]; exact (Below.refl _ _).alloc (Nat.le_refl _) _
    have NB : RB w3 w2.heap.size x y := by rw [hw3]; exact RB.new _ _ _
    have B3 := Lib.hid (B2.out.trans (b9.mono B2.out.size))
    clear  B2
    clear b9
    have F_3 := Lib.hid NB
    clear NB
    obtain ⟨w4, hw4⟩ : ∃ w4, w4 = w3.alloc (.cells #[.int .i64 z, .int .i64 t] 55) := ⟨_, rfl⟩
    have b9 : Below w3.heap.size w3 w4 := by rw [hw4]; exact (Below.refl _ _).alloc (Nat.le_refl _) _
    have NB : RB w4 (w2.heap.size + 1) z t := by
      rw [show w2.heap.size + 1 = w3.heap.size by rw [hw3]; simp, hw4]; exact RB.new _ _ _
    have F_4 := Lib.hid (F_3.out.below b9)
    have B4 := Lib.hid (B3.out.trans (b9.mono B3.out.size))
    clear F_3 B3
    clear b9
    have G_4 := Lib.hid NB
    clear NB
    obtain ⟨ap, aq, aok, hK, hT⟩ := add_sum x y z t
    have A1 := Lib.hid (fun w => addI x y z t w)
    have A2 := Lib.hid (fun w => addM x y z t w)
    have A3 := Lib.hid (fun w => addI z t x y w)
    rw [hK] at A1 A2
    rw [addV_comm, hK] at A3
    have AT := Lib.hid hT
    clear hK hT
    have qa := fun w => eq_pair ap aq w
    obtain ⟨tp, tq, tok, hK, hT⟩ := times_prod x y z t
    have T1 := Lib.hid (fun w => timesI x y z t w)
    have T2 := Lib.hid (fun w => timesM x y z t w)
    have T3 := Lib.hid (fun w => timesI z t x y w)
    rw [hK] at T1 T2
    rw [timesV_comm, hK] at T3
    have TT := Lib.hid hT
    clear hK hT
    have qt := fun w => eq_pair tp tq w
    have qx := fun w => eq_pair x y w
    obtain ⟨Fc0, Fc1, _, _⟩ := F_4.out.cells
    obtain ⟨Gc0, Gc1, _, _⟩ := G_4.out.cells
    rw [hw4, hw3] at Fc0 Fc1 Gc0 Gc1
    go_wp2_with fail
    rw [← hw3]
    rw [← hw4]
    clear hw3 hw4
    clear Fc0 Fc1 Gc0 Gc1
    refine (A1.out w4).mono ?_
    rintro e w5 ⟨rfl, b9⟩
    have F_5 := Lib.hid (F_4.out.below b9)
    have G_5 := Lib.hid (G_4.out.below b9)
    have B5 := Lib.hid (B4.out.trans (b9.mono B4.out.size))
    clear F_4 G_4 B4
    clear b9
    obtain ⟨w6, hw6⟩ : ∃ w6, w6 = w5.alloc (.cells #[.int .i64 ap, .int .i64 aq] 55) := ⟨_, rfl⟩
    have b9 : Below w5.heap.size w5 w6 := by rw [hw6]; exact (Below.refl _ _).alloc (Nat.le_refl _) _
    have NB : RB w6 w5.heap.size ap aq := by rw [hw6]; exact RB.new _ _ _
    have F_6 := Lib.hid (F_5.out.below b9)
    have G_6 := Lib.hid (G_5.out.below b9)
    have B6 := Lib.hid (B5.out.trans (b9.mono B5.out.size))
    clear F_5 G_5 B5
    clear b9
    have P_6 := Lib.hid NB
    clear NB
    obtain ⟨Fc0, Fc1, _, _⟩ := F_6.out.cells
    obtain ⟨Gc0, Gc1, _, _⟩ := G_6.out.cells
    rw [hw6] at Fc0 Fc1 Gc0 Gc1
    go_wp2_with fail
    rw [← hw6]
    clear hw6
    clear Fc0 Fc1 Gc0 Gc1
    refine (A2.out w6).mono ?_
    rintro e w7 ⟨rfl, b9⟩
    have F_7 := Lib.hid (F_6.out.below b9)
    have G_7 := Lib.hid (G_6.out.below b9)
    have P_7 := Lib.hid (P_6.out.below b9)
    have B7 := Lib.hid (B6.out.trans (b9.mono B6.out.size))
    clear F_6 G_6 P_6 B6
    clear b9
    obtain ⟨w8, hw8⟩ : ∃ w8, w8 = w7.alloc (.cells #[.int .i64 ap, .int .i64 aq] 55) := ⟨_, rfl⟩
    have b9 : Below w7.heap.size w7 w8 := by rw [hw8]; exact (Below.refl _ _).alloc (Nat.le_refl _) _
    have NB : RB w8 w7.heap.size ap aq := by rw [hw8]; exact RB.new _ _ _
    have F_8 := Lib.hid (F_7.out.below b9)
    have G_8 := Lib.hid (G_7.out.below b9)
    have P_8 := Lib.hid (P_7.out.below b9)
    have B8 := Lib.hid (B7.out.trans (b9.mono B7.out.size))
    clear F_7 G_7 P_7 B7
    clear b9
    have Q_8 := Lib.hid NB
    clear NB
    obtain ⟨Fc0, Fc1, _, _⟩ := F_8.out.cells
    obtain ⟨Gc0, Gc1, _, _⟩ := G_8.out.cells
    obtain ⟨Pc0, Pc1, _, _⟩ := P_8.out.cells
    obtain ⟨Qc0, Qc1, _, _⟩ := Q_8.out.cells
    rw [hw8] at Fc0 Fc1 Gc0 Gc1 Pc0 Pc1 Qc0 Qc1
    go_wp2_with fail
    rw [← hw8]
    clear hw8
    clear Fc0 Fc1 Gc0 Gc1 Pc0 Pc1 Qc0 Qc1
    clear Q_8
    refine (T1.out w8).mono ?_
    rintro e w9 ⟨rfl, b9⟩
    have F_9 := Lib.hid (F_8.out.below b9)
    have G_9 := Lib.hid (G_8.out.below b9)
    have P_9 := Lib.hid (P_8.out.below b9)
    have B9 := Lib.hid (B8.out.trans (b9.mono B8.out.size))
    clear F_8 G_8 P_8 B8
    clear b9
    obtain ⟨w10, hw10⟩ : ∃ w10, w10 = w9.alloc (.cells #[.int .i64 tp, .int .i64 tq] 55) := ⟨_, rfl⟩
    have b9 : Below w9.heap.size w9 w10 := by rw [hw10]; exact (Below.refl _ _).alloc (Nat.le_refl _) _
    have NB : RB w10 w9.heap.size tp tq := by rw [hw10]; exact RB.new _ _ _
    have F_10 := Lib.hid (F_9.out.below b9)
    have G_10 := Lib.hid (G_9.out.below b9)
    have P_10 := Lib.hid (P_9.out.below b9)
    have B10 := Lib.hid (B9.out.trans (b9.mono B9.out.size))
    clear F_9 G_9 P_9 B9
    clear b9
    have R_10 := Lib.hid NB
    clear NB
    obtain ⟨Fc0, Fc1, _, _⟩ := F_10.out.cells
    obtain ⟨Gc0, Gc1, _, _⟩ := G_10.out.cells
    rw [hw10] at Fc0 Fc1 Gc0 Gc1
    go_wp2_with fail
    rw [← hw10]
    clear hw10
    clear Fc0 Fc1 Gc0 Gc1
    refine (T2.out w10).mono ?_
    rintro e w11 ⟨rfl, b9⟩
    have F_11 := Lib.hid (F_10.out.below b9)
    have G_11 := Lib.hid (G_10.out.below b9)
    have P_11 := Lib.hid (P_10.out.below b9)
    have R_11 := Lib.hid (R_10.out.below b9)
    have B11 := Lib.hid (B10.out.trans (b9.mono B10.out.size))
    clear F_10 G_10 P_10 R_10 B10
    clear b9
    obtain ⟨w12, hw12⟩ : ∃ w12, w12 = w11.alloc (.cells #[.int .i64 tp, .int .i64 tq] 55) := ⟨_, rfl⟩
    have b9 : Below w11.heap.size w11 w12 := by rw [hw12]; exact (Below.refl _ _).alloc (Nat.le_refl _) _
    have NB : RB w12 w11.heap.size tp tq := by rw [hw12]; exact RB.new _ _ _
    have F_12 := Lib.hid (F_11.out.below b9)
    have G_12 := Lib.hid (G_11.out.below b9)
    have P_12 := Lib.hid (P_11.out.below b9)
    have R_12 := Lib.hid (R_11.out.below b9)
    have B12 := Lib.hid (B11.out.trans (b9.mono B11.out.size))
    clear F_11 G_11 P_11 R_11 B11
    clear b9
    have Q_12 := Lib.hid NB
    clear NB
    obtain ⟨Fc0, Fc1, _, _⟩ := F_12.out.cells
    obtain ⟨Gc0, Gc1, _, _⟩ := G_12.out.cells
    obtain ⟨Rc0, Rc1, _, _⟩ := R_12.out.cells
    obtain ⟨Qc0, Qc1, _, _⟩ := Q_12.out.cells
    rw [hw12] at Fc0 Fc1 Gc0 Gc1 Rc0 Rc1 Qc0 Qc1
    go_wp2_with fail
    rw [← hw12]
    clear hw12
    clear Fc0 Fc1 Gc0 Gc1 Rc0 Rc1 Qc0 Qc1
    clear Q_12
    refine (drawCmpF n c p _ hn ((BB.out.turned (Nat.le_refl _) (grown_below B12.out _)).more B12.out.size)).mono ?_
    rintro e w13 ⟨⟨x2, y2, z2, t2, rfl⟩, b9⟩
    have F_13 := Lib.hid (F_12.out.below b9)
    have G_13 := Lib.hid (G_12.out.below b9)
    have P_13 := Lib.hid (P_12.out.below b9)
    have R_13 := Lib.hid (R_12.out.below b9)
    have B13 := Lib.hid (B12.out.trans (b9.mono B12.out.size))
    clear F_12 G_12 P_12 R_12 B12
    clear b9
    obtain ⟨w14, hw14⟩ : ∃ w14, w14 = w13.alloc (.cells #[.int .i64 x2, .int .i64 y2] 55) := ⟨_, rfl⟩
    have b9 : Below w13.heap.size w13 w14 := by rw [hw14]; exact (Below.refl _ _).alloc (Nat.le_refl _) _
    have NB : RB w14 w13.heap.size x2 y2 := by rw [hw14]; exact RB.new _ _ _
    have F_14 := Lib.hid (F_13.out.below b9)
    have G_14 := Lib.hid (G_13.out.below b9)
    have P_14 := Lib.hid (P_13.out.below b9)
    have R_14 := Lib.hid (R_13.out.below b9)
    have B14 := Lib.hid (B13.out.trans (b9.mono B13.out.size))
    clear F_13 G_13 P_13 R_13 B13
    clear b9
    have H_14 := Lib.hid NB
    clear NB
    obtain ⟨w15, hw15⟩ : ∃ w15, w15 = w14.alloc (.cells #[.int .i64 z2, .int .i64 t2] 55) := ⟨_, rfl⟩
    have b9 : Below w14.heap.size w14 w15 := by rw [hw15]; exact (Below.refl _ _).alloc (Nat.le_refl _) _
    have NB : RB w15 (w13.heap.size + 1) z2 t2 := by
      rw [show w13.heap.size + 1 = w14.heap.size by rw [hw14]; simp, hw15]; exact RB.new _ _ _
    have F_15 := Lib.hid (F_14.out.below b9)
    have G_15 := Lib.hid (G_14.out.below b9)
    have P_15 := Lib.hid (P_14.out.below b9)
    have R_15 := Lib.hid (R_14.out.below b9)
    have H_15 := Lib.hid (H_14.out.below b9)
    have B15 := Lib.hid (B14.out.trans (b9.mono B14.out.size))
    clear F_14 G_14 P_14 R_14 H_14 B14
    clear b9
    have J_15 := Lib.hid NB
    clear NB
    obtain ⟨o, cok, ho, hK, hT⟩ := cmp_ord x2 y2 z2 t2
    have C1 := Lib.hid (fun w => cmpI x2 y2 z2 t2 w)
    have C2 := Lib.hid (fun w => cmpM x2 y2 z2 t2 w)
    have C3 := Lib.hid (fun w => cmpI z2 t2 x2 y2 w)
    rw [hK] at C1 C2
    have CT := Lib.hid hT
    clear hK hT
    obtain ⟨Hc0, Hc1, _, _⟩ := H_15.out.cells
    obtain ⟨Jc0, Jc1, _, _⟩ := J_15.out.cells
    rw [hw15, hw14] at Hc0 Hc1 Jc0 Jc1
    go_wp2_with fail
    rw [← hw14]
    rw [← hw15]
    clear hw14 hw15
    clear Hc0 Hc1 Jc0 Jc1
    refine (C1.out w15).mono ?_
    rintro e w16 ⟨rfl, b9⟩
    have F_16 := Lib.hid (F_15.out.below b9)
    have G_16 := Lib.hid (G_15.out.below b9)
    have P_16 := Lib.hid (P_15.out.below b9)
    have R_16 := Lib.hid (R_15.out.below b9)
    have H_16 := Lib.hid (H_15.out.below b9)
    have J_16 := Lib.hid (J_15.out.below b9)
    have B16 := Lib.hid (B15.out.trans (b9.mono B15.out.size))
    clear F_15 G_15 P_15 R_15 H_15 J_15 B15
    clear b9
    obtain ⟨Hc0, Hc1, _, _⟩ := H_16.out.cells
    obtain ⟨Jc0, Jc1, _, _⟩ := J_16.out.cells
    go_wp2_with fail
    clear Hc0 Hc1 Jc0 Jc1
    refine (C2.out w16).mono ?_
    rintro e w17 ⟨rfl, b9⟩
    have F_17 := Lib.hid (F_16.out.below b9)
    have G_17 := Lib.hid (G_16.out.below b9)
    have P_17 := Lib.hid (P_16.out.below b9)
    have R_17 := Lib.hid (R_16.out.below b9)
    have H_17 := Lib.hid (H_16.out.below b9)
    have J_17 := Lib.hid (J_16.out.below b9)
    have B17 := Lib.hid (B16.out.trans (b9.mono B16.out.size))
    clear F_16 G_16 P_16 R_16 H_16 J_16 B16
    clear b9
    go_wp2_with fail
    refine (drawFracOf n c p _ hn ((BB.out.turned (Nat.le_refl _) (grown_below B17.out _)).more B17.out.size)).mono ?_
    rintro e w18 ⟨⟨f1, f2, rfl⟩, b9⟩
    have F_18 := Lib.hid (F_17.out.below b9)
    have G_18 := Lib.hid (G_17.out.below b9)
    have P_18 := Lib.hid (P_17.out.below b9)
    have R_18 := Lib.hid (R_17.out.below b9)
    have H_18 := Lib.hid (H_17.out.below b9)
    have J_18 := Lib.hid (J_17.out.below b9)
    have B18 := Lib.hid (B17.out.trans (b9.mono B17.out.size))
    clear F_17 G_17 P_17 R_17 H_17 J_17 B17
    clear b9
    obtain ⟨fp, fq, fok, hK, hT⟩ := frac_quot f1 f2
    have F1 := Lib.hid (fun w => fracOfI f1 f2 w)
    have F2 := Lib.hid (fun w => fracOfM f1 f2 w)
    rw [hK] at F1 F2
    have FT := Lib.hid hT
    clear hK hT
    have qf := fun w => eq_pair fp fq w
    go_wp2_with fail
    refine (F1.out w18).mono ?_
    rintro e w19 ⟨rfl, b9⟩
    have F_19 := Lib.hid (F_18.out.below b9)
    have G_19 := Lib.hid (G_18.out.below b9)
    have P_19 := Lib.hid (P_18.out.below b9)
    have R_19 := Lib.hid (R_18.out.below b9)
    have H_19 := Lib.hid (H_18.out.below b9)
    have J_19 := Lib.hid (J_18.out.below b9)
    have B19 := Lib.hid (B18.out.trans (b9.mono B18.out.size))
    clear F_18 G_18 P_18 R_18 H_18 J_18 B18
    clear b9
    obtain ⟨w20, hw20⟩ : ∃ w20, w20 = w19.alloc (.cells #[.int .i64 fp, .int .i64 fq] 55) := ⟨_, rfl⟩
    have b9 : Below w19.heap.size w19 w20 := by rw [hw20]; exact (Below.refl _ _).alloc (Nat.le_refl _) _
    have NB : RB w20 w19.heap.size fp fq := by rw [hw20]; exact RB.new _ _ _
    have F_20 := Lib.hid (F_19.out.below b9)
    have G_20 := Lib.hid (G_19.out.below b9)
    have P_20 := Lib.hid (P_19.out.below b9)
    have R_20 := Lib.hid (R_19.out.below b9)
    have H_20 := Lib.hid (H_19.out.below b9)
    have J_20 := Lib.hid (J_19.out.below b9)
    have B20 := Lib.hid (B19.out.trans (b9.mono B19.out.size))
    clear F_19 G_19 P_19 R_19 H_19 J_19 B19
    clear b9
    have K_20 := Lib.hid NB
    clear NB
    go_wp2_with fail
    rw [← hw20]
    clear hw20
    refine (F2.out w20).mono ?_
    rintro e w21 ⟨rfl, b9⟩
    have F_21 := Lib.hid (F_20.out.below b9)
    have G_21 := Lib.hid (G_20.out.below b9)
    have P_21 := Lib.hid (P_20.out.below b9)
    have R_21 := Lib.hid (R_20.out.below b9)
    have H_21 := Lib.hid (H_20.out.below b9)
    have J_21 := Lib.hid (J_20.out.below b9)
    have K_21 := Lib.hid (K_20.out.below b9)
    have B21 := Lib.hid (B20.out.trans (b9.mono B20.out.size))
    clear F_20 G_20 P_20 R_20 H_20 J_20 K_20 B20
    clear b9
    obtain ⟨w22, hw22⟩ : ∃ w22, w22 = w21.alloc (.cells #[.int .i64 fp, .int .i64 fq] 55) := ⟨_, rfl⟩
    have b9 : Below w21.heap.size w21 w22 := by rw [hw22]; exact (Below.refl _ _).alloc (Nat.le_refl _) _
    have NB : RB w22 w21.heap.size fp fq := by rw [hw22]; exact RB.new _ _ _
    have F_22 := Lib.hid (F_21.out.below b9)
    have G_22 := Lib.hid (G_21.out.below b9)
    have P_22 := Lib.hid (P_21.out.below b9)
    have R_22 := Lib.hid (R_21.out.below b9)
    have H_22 := Lib.hid (H_21.out.below b9)
    have J_22 := Lib.hid (J_21.out.below b9)
    have K_22 := Lib.hid (K_21.out.below b9)
    have B22 := Lib.hid (B21.out.trans (b9.mono B21.out.size))
    clear F_21 G_21 P_21 R_21 H_21 J_21 K_21 B21
    clear b9
    have Q_22 := Lib.hid NB
    clear NB
    cases fok
    · skip
      obtain ⟨Kc0, Kc1, _, _⟩ := K_22.out.cells
      obtain ⟨Qc0, Qc1, _, _⟩ := Q_22.out.cells
      rw [hw22] at Kc0 Kc1 Qc0 Qc1
      go_wp2_with fail
      rw [← hw22]
      clear hw22
      clear Kc0 Kc1 Qc0 Qc1
      clear K_22 Q_22
      refine (drawIsF n c p _ hn ((BB.out.turned (Nat.le_refl _) (grown_below B22.out _)).more B22.out.size)).mono ?_
      rintro e w23 ⟨⟨i1, i2, rfl⟩, b9⟩
      have F_23 := Lib.hid (F_22.out.below b9)
      have G_23 := Lib.hid (G_22.out.below b9)
      have P_23 := Lib.hid (P_22.out.below b9)
      have R_23 := Lib.hid (R_22.out.below b9)
      have H_23 := Lib.hid (H_22.out.below b9)
      have J_23 := Lib.hid (J_22.out.below b9)
      have B23 := Lib.hid (B22.out.trans (b9.mono B22.out.size))
      clear F_22 G_22 P_22 R_22 H_22 J_22 B22
      clear b9
      obtain ⟨w24, hw24⟩ : ∃ w24, w24 = w23.alloc (.cells #[.int .i64 i1, .int .i64 i2] 55) := ⟨_, rfl⟩
      have b9 : Below w23.heap.size w23 w24 := by rw [hw24]; exact (Below.refl _ _).alloc (Nat.le_refl _) _
      have NB : RB w24 w23.heap.size i1 i2 := by rw [hw24]; exact RB.new _ _ _
      have F_24 := Lib.hid (F_23.out.below b9)
      have G_24 := Lib.hid (G_23.out.below b9)
      have P_24 := Lib.hid (P_23.out.below b9)
      have R_24 := Lib.hid (R_23.out.below b9)
      have H_24 := Lib.hid (H_23.out.below b9)
      have J_24 := Lib.hid (J_23.out.below b9)
      have B24 := Lib.hid (B23.out.trans (b9.mono B23.out.size))
      clear F_23 G_23 P_23 R_23 H_23 J_23 B23
      clear b9
      have V_24 := Lib.hid NB
      clear NB
      go_upto_region 23 with fail
      rw [← hw24]
      clear hw24
      obtain ⟨v, hv⟩ : ∃ v, v = isFr i1 i2 := ⟨_, rfl⟩
      have V1 := Lib.hid (fun w => isFracI i1 i2 w)
      have V2 := Lib.hid (fun w => isFracM i1 i2 w)
      rw [← hv] at V1 V2
      clear hv
      have KV : Hid (∀ w', Below w24.heap.size w24 w' → w'.cell? ⟨w23.heap.size, 0, none⟩ = some (.int .i64 i1) ∧ w'.cell? ⟨w23.heap.size, 1, none⟩ = some (.int .i64 i2)) := Lib.hid (fun w' hb => (V_24.out.below hb).two)
      obtain ⟨Vc0, Vc1⟩ := KV.out w24 (Below.refl _ _)
      go_cut [147] (fun s wx => s = .bool false ∧ Hid (Below w24.heap.size w24 wx))
      case first =>
        go_region_held3 (fun w' => w'.cell? ⟨w23.heap.size, 0, none⟩ = some (.int .i64 i1) ∧ w'.cell? ⟨w23.heap.size, 1, none⟩ = some (.int .i64 i2) ∧ Below w24.heap.size w24 w')
          ((refine and2b (KV.out _) ?_; (repeat' (first | assumption | with_reducible refine below_drew ?_ | with_reducible exact Below.refl _ _))))
          (first
            | (go_at_call 53; (with_reducible refine (V1.out _).mono ?_); rintro e w91 ⟨rfl, c1⟩; have hb1 : Below w24.heap.size w24 w91 := (by (apply fBW_next c1; (repeat' (first | assumption | with_reducible refine below_drew ?_ | with_reducible exact Below.refl _ _)))); clear c1)
            | (go_at_call 55; (with_reducible refine (V2.out _).mono ?_); rintro e w92 ⟨rfl, c2⟩; have hb2 : Below w24.heap.size w24 w92 := (by (apply fBW_next c2; (repeat' (first | assumption | with_reducible refine below_drew ?_ | with_reducible exact Below.refl _ _)))); clear c2))
        all_goals (go_wp2_with fail; go_meet; exact ⟨by simp, Lib.hid (by assumption)⟩)
      obtain ⟨rfl, h9⟩ := hcut
      obtain ⟨w25, rfl⟩ : ∃ w9 : World, w9 = wc := ⟨_, rfl⟩
      have b9 := h9.out
      clear h9 KV V1 V2 Vc0 Vc1
      clear V_24
      have F_25 := Lib.hid (F_24.out.below b9)
      have G_25 := Lib.hid (G_24.out.below b9)
      have P_25 := Lib.hid (P_24.out.below b9)
      have R_25 := Lib.hid (R_24.out.below b9)
      have H_25 := Lib.hid (H_24.out.below b9)
      have J_25 := Lib.hid (J_24.out.below b9)
      have B25 := Lib.hid (B24.out.trans (b9.mono B24.out.size))
      clear F_24 G_24 P_24 R_24 H_24 J_24 B24
      clear b9
      cases cok
      · skip
        clear H_25 J_25
        cases aok
        · skip
          cases tok
          · skip
            go_wp2_with fail
            go_ret
            exact ⟨rfl, B25.out⟩
          · have tf := TT.out rfl
            have T4 := Lib.hid (fun w => isFracI tp tq w)
            rw [tf] at T4
            clear tf
            obtain ⟨Fc0, Fc1, _, _⟩ := F_25.out.cells
            obtain ⟨Gc0, Gc1, _, _⟩ := G_25.out.cells
            go_wp2_with fail
            clear Fc0 Fc1 Gc0 Gc1
            refine (T3.out w25).mono ?_
            rintro e w26 ⟨rfl, b9⟩
            have F_26 := Lib.hid (F_25.out.below b9)
            have G_26 := Lib.hid (G_25.out.below b9)
            have P_26 := Lib.hid (P_25.out.below b9)
            have R_26 := Lib.hid (R_25.out.below b9)
            have B26 := Lib.hid (B25.out.trans (b9.mono B25.out.size))
            clear F_25 G_25 P_25 R_25 B25
            clear b9
            obtain ⟨w27, hw27⟩ : ∃ w27, w27 = w26.alloc (.cells #[.int .i64 tp, .int .i64 tq] 55) := ⟨_, rfl⟩
            have b9 : Below w26.heap.size w26 w27 := by rw [hw27]; exact (Below.refl _ _).alloc (Nat.le_refl _) _
            have NB : RB w27 w26.heap.size tp tq := by rw [hw27]; exact RB.new _ _ _
            have F_27 := Lib.hid (F_26.out.below b9)
            have G_27 := Lib.hid (G_26.out.below b9)
            have P_27 := Lib.hid (P_26.out.below b9)
            have R_27 := Lib.hid (R_26.out.below b9)
            have B27 := Lib.hid (B26.out.trans (b9.mono B26.out.size))
            clear F_26 G_26 P_26 R_26 B26
            clear b9
            have Y_27 := Lib.hid NB
            clear NB
            obtain ⟨Yc0, Yc1, _, _⟩ := Y_27.out.cells
            obtain ⟨Rc0, Rc1, _, _⟩ := R_27.out.cells
            rw [hw27] at Yc0 Yc1 Rc0 Rc1
            go_wp2_with fail
            rw [← hw27]
            clear hw27
            clear Yc0 Yc1 Rc0 Rc1
            clear Y_27
            refine (T4.out w27).mono ?_
            rintro e w28 ⟨rfl, b9⟩
            have F_28 := Lib.hid (F_27.out.below b9)
            have G_28 := Lib.hid (G_27.out.below b9)
            have P_28 := Lib.hid (P_27.out.below b9)
            have R_28 := Lib.hid (R_27.out.below b9)
            have B28 := Lib.hid (B27.out.trans (b9.mono B27.out.size))
            clear F_27 G_27 P_27 R_27 B27
            clear b9
            go_wp2_with fail
            go_ret
            exact ⟨rfl, B28.out⟩
        · obtain ⟨af, ⟨z1, z2'⟩, aF, aB⟩ := AT.out rfl
          have A4 := Lib.hid (fun w => fracOfI (-z) t w)
          rw [aF] at A4
          have A5 := Lib.hid (fun w => addI ap aq (-z) t w)
          rw [aB] at A5
          have A6 := Lib.hid (fun w => isFracI ap aq w)
          rw [af] at A6
          clear af aF aB
          have WZ : IntKind.i64.wrap (-z) = -z := IntWalk.i64_in _ (by omega)
          obtain ⟨Fc0, Fc1, _, _⟩ := F_25.out.cells
          obtain ⟨Gc0, Gc1, _, _⟩ := G_25.out.cells
          go_wp2_with fail
          clear Fc0 Fc1 Gc0 Gc1
          refine (A3.out w25).mono ?_
          rintro e w26 ⟨rfl, b9⟩
          have F_26 := Lib.hid (F_25.out.below b9)
          have G_26 := Lib.hid (G_25.out.below b9)
          have P_26 := Lib.hid (P_25.out.below b9)
          have R_26 := Lib.hid (R_25.out.below b9)
          have B26 := Lib.hid (B25.out.trans (b9.mono B25.out.size))
          clear F_25 G_25 P_25 R_25 B25
          clear b9
          obtain ⟨w27, hw27⟩ : ∃ w27, w27 = w26.alloc (.cells #[.int .i64 ap, .int .i64 aq] 55) := ⟨_, rfl⟩
          have b9 : Below w26.heap.size w26 w27 := by rw [hw27]; exact (Below.refl _ _).alloc (Nat.le_refl _) _
          have NB : RB w27 w26.heap.size ap aq := by rw [hw27]; exact RB.new _ _ _
          have F_27 := Lib.hid (F_26.out.below b9)
          have G_27 := Lib.hid (G_26.out.below b9)
          have P_27 := Lib.hid (P_26.out.below b9)
          have R_27 := Lib.hid (R_26.out.below b9)
          have B27 := Lib.hid (B26.out.trans (b9.mono B26.out.size))
          clear F_26 G_26 P_26 R_26 B26
          clear b9
          have Q_27 := Lib.hid NB
          clear NB
          obtain ⟨Fc0, Fc1, _, _⟩ := F_27.out.cells
          obtain ⟨Gc0, Gc1, _, _⟩ := G_27.out.cells
          rw [hw27] at Fc0 Fc1 Gc0 Gc1
          go_wp2_with fail
          rw [← hw27]
          clear hw27
          clear Fc0 Fc1 Gc0 Gc1
          refine (A4.out w27).mono ?_
          rintro e w28 ⟨rfl, b9⟩
          have F_28 := Lib.hid (F_27.out.below b9)
          have G_28 := Lib.hid (G_27.out.below b9)
          have P_28 := Lib.hid (P_27.out.below b9)
          have R_28 := Lib.hid (R_27.out.below b9)
          have Q_28 := Lib.hid (Q_27.out.below b9)
          have B28 := Lib.hid (B27.out.trans (b9.mono B27.out.size))
          clear F_27 G_27 P_27 R_27 Q_27 B27
          clear b9
          obtain ⟨w29, hw29⟩ : ∃ w29, w29 = w28.alloc (.cells #[.int .i64 (-z), .int .i64 t] 55) := ⟨_, rfl⟩
          have b9 : Below w28.heap.size w28 w29 := by rw [hw29]; exact (Below.refl _ _).alloc (Nat.le_refl _) _
          have NB : RB w29 w28.heap.size (-z) t := by rw [hw29]; exact RB.new _ _ _
          have F_29 := Lib.hid (F_28.out.below b9)
          have G_29 := Lib.hid (G_28.out.below b9)
          have P_29 := Lib.hid (P_28.out.below b9)
          have R_29 := Lib.hid (R_28.out.below b9)
          have Q_29 := Lib.hid (Q_28.out.below b9)
          have B29 := Lib.hid (B28.out.trans (b9.mono B28.out.size))
          clear F_28 G_28 P_28 R_28 Q_28 B28
          clear b9
          have U_29 := Lib.hid NB
          clear NB
          obtain ⟨Pc0, Pc1, _, _⟩ := P_29.out.cells
          obtain ⟨Qc0, Qc1, _, _⟩ := Q_29.out.cells
          rw [hw29] at Pc0 Pc1 Qc0 Qc1
          go_wp2_with fail
          rw [← hw29]
          clear hw29
          clear Pc0 Pc1 Qc0 Qc1
          clear Q_29
          refine (A6.out w29).mono ?_
          rintro e w30 ⟨rfl, b9⟩
          have F_30 := Lib.hid (F_29.out.below b9)
          have G_30 := Lib.hid (G_29.out.below b9)
          have P_30 := Lib.hid (P_29.out.below b9)
          have R_30 := Lib.hid (R_29.out.below b9)
          have U_30 := Lib.hid (U_29.out.below b9)
          have B30 := Lib.hid (B29.out.trans (b9.mono B29.out.size))
          clear F_29 G_29 P_29 R_29 U_29 B29
          clear b9
          obtain ⟨Pc0, Pc1, _, _⟩ := P_30.out.cells
          obtain ⟨Uc0, Uc1, _, _⟩ := U_30.out.cells
          go_wp2_with fail
          clear Pc0 Pc1 Uc0 Uc1
          clear U_30
          refine (A5.out w30).mono ?_
          rintro e w31 ⟨rfl, b9⟩
          have F_31 := Lib.hid (F_30.out.below b9)
          have G_31 := Lib.hid (G_30.out.below b9)
          have P_31 := Lib.hid (P_30.out.below b9)
          have R_31 := Lib.hid (R_30.out.below b9)
          have B31 := Lib.hid (B30.out.trans (b9.mono B30.out.size))
          clear F_30 G_30 P_30 R_30 B30
          clear b9
          obtain ⟨w32, hw32⟩ : ∃ w32, w32 = w31.alloc (.cells #[.int .i64 x, .int .i64 y] 55) := ⟨_, rfl⟩
          have b9 : Below w31.heap.size w31 w32 := by rw [hw32]; exact (Below.refl _ _).alloc (Nat.le_refl _) _
          have NB : RB w32 w31.heap.size x y := by rw [hw32]; exact RB.new _ _ _
          have F_32 := Lib.hid (F_31.out.below b9)
          have G_32 := Lib.hid (G_31.out.below b9)
          have P_32 := Lib.hid (P_31.out.below b9)
          have R_32 := Lib.hid (R_31.out.below b9)
          have B32 := Lib.hid (B31.out.trans (b9.mono B31.out.size))
          clear F_31 G_31 P_31 R_31 B31
          clear b9
          have Q_32 := Lib.hid NB
          clear NB
          cases tok
          · skip
            obtain ⟨Fc0, Fc1, _, _⟩ := F_32.out.cells
            obtain ⟨Qc0, Qc1, _, _⟩ := Q_32.out.cells
            rw [hw32] at Fc0 Fc1 Qc0 Qc1
            go_wp2_with fail
            rw [← hw32]
            go_ret
            exact ⟨rfl, B32.out⟩
          · have tf := TT.out rfl
            have T4 := Lib.hid (fun w => isFracI tp tq w)
            rw [tf] at T4
            clear tf
            obtain ⟨Fc0, Fc1, _, _⟩ := F_32.out.cells
            obtain ⟨Gc0, Gc1, _, _⟩ := G_32.out.cells
            obtain ⟨Qc0, Qc1, _, _⟩ := Q_32.out.cells
            rw [hw32] at Fc0 Fc1 Gc0 Gc1 Qc0 Qc1
            go_wp2_with fail
            rw [← hw32]
            clear hw32
            clear Fc0 Fc1 Gc0 Gc1 Qc0 Qc1
            refine (T3.out w32).mono ?_
            rintro e w33 ⟨rfl, b9⟩
            have F_33 := Lib.hid (F_32.out.below b9)
            have G_33 := Lib.hid (G_32.out.below b9)
            have P_33 := Lib.hid (P_32.out.below b9)
            have R_33 := Lib.hid (R_32.out.below b9)
            have Q_33 := Lib.hid (Q_32.out.below b9)
            have B33 := Lib.hid (B32.out.trans (b9.mono B32.out.size))
            clear F_32 G_32 P_32 R_32 Q_32 B32
            clear b9
            obtain ⟨w34, hw34⟩ : ∃ w34, w34 = w33.alloc (.cells #[.int .i64 tp, .int .i64 tq] 55) := ⟨_, rfl⟩
            have b9 : Below w33.heap.size w33 w34 := by rw [hw34]; exact (Below.refl _ _).alloc (Nat.le_refl _) _
            have NB : RB w34 w33.heap.size tp tq := by rw [hw34]; exact RB.new _ _ _
            have F_34 := Lib.hid (F_33.out.below b9)
            have G_34 := Lib.hid (G_33.out.below b9)
            have P_34 := Lib.hid (P_33.out.below b9)
            have R_34 := Lib.hid (R_33.out.below b9)
            have Q_34 := Lib.hid (Q_33.out.below b9)
            have B34 := Lib.hid (B33.out.trans (b9.mono B33.out.size))
            clear F_33 G_33 P_33 R_33 Q_33 B33
            clear b9
            have Y_34 := Lib.hid NB
            clear NB
            obtain ⟨Yc0, Yc1, _, _⟩ := Y_34.out.cells
            obtain ⟨Rc0, Rc1, _, _⟩ := R_34.out.cells
            rw [hw34] at Yc0 Yc1 Rc0 Rc1
            go_wp2_with fail
            rw [← hw34]
            clear hw34
            clear Yc0 Yc1 Rc0 Rc1
            clear Y_34
            refine (T4.out w34).mono ?_
            rintro e w35 ⟨rfl, b9⟩
            have F_35 := Lib.hid (F_34.out.below b9)
            have G_35 := Lib.hid (G_34.out.below b9)
            have P_35 := Lib.hid (P_34.out.below b9)
            have R_35 := Lib.hid (R_34.out.below b9)
            have Q_35 := Lib.hid (Q_34.out.below b9)
            have B35 := Lib.hid (B34.out.trans (b9.mono B34.out.size))
            clear F_34 G_34 P_34 R_34 Q_34 B34
            clear b9
            go_wp2_with fail
            go_ret
            exact ⟨rfl, B35.out⟩
      · have CV := CT.out rfl
        rw [CV] at C3
        clear CV
        have WN : IntKind.i64.wrap (-o) = -o := IntWalk.i64_in _ (by omega)
        obtain ⟨Hc0, Hc1, _, _⟩ := H_25.out.cells
        obtain ⟨Jc0, Jc1, _, _⟩ := J_25.out.cells
        go_wp2_with fail
        clear Hc0 Hc1 Jc0 Jc1
        refine (C3.out w25).mono ?_
        rintro e w26 ⟨rfl, b9⟩
        have F_26 := Lib.hid (F_25.out.below b9)
        have G_26 := Lib.hid (G_25.out.below b9)
        have P_26 := Lib.hid (P_25.out.below b9)
        have R_26 := Lib.hid (R_25.out.below b9)
        have H_26 := Lib.hid (H_25.out.below b9)
        have J_26 := Lib.hid (J_25.out.below b9)
        have B26 := Lib.hid (B25.out.trans (b9.mono B25.out.size))
        clear F_25 G_25 P_25 R_25 H_25 J_25 B25
        clear b9
        clear H_26 J_26
        cases aok
        · skip
          cases tok
          · skip
            go_wp2_with fail
            go_ret
            exact ⟨rfl, B26.out⟩
          · have tf := TT.out rfl
            have T4 := Lib.hid (fun w => isFracI tp tq w)
            rw [tf] at T4
            clear tf
            obtain ⟨Fc0, Fc1, _, _⟩ := F_26.out.cells
            obtain ⟨Gc0, Gc1, _, _⟩ := G_26.out.cells
            go_wp2_with fail
            clear Fc0 Fc1 Gc0 Gc1
            refine (T3.out w26).mono ?_
            rintro e w27 ⟨rfl, b9⟩
            have F_27 := Lib.hid (F_26.out.below b9)
            have G_27 := Lib.hid (G_26.out.below b9)
            have P_27 := Lib.hid (P_26.out.below b9)
            have R_27 := Lib.hid (R_26.out.below b9)
            have B27 := Lib.hid (B26.out.trans (b9.mono B26.out.size))
            clear F_26 G_26 P_26 R_26 B26
            clear b9
            obtain ⟨w28, hw28⟩ : ∃ w28, w28 = w27.alloc (.cells #[.int .i64 tp, .int .i64 tq] 55) := ⟨_, rfl⟩
            have b9 : Below w27.heap.size w27 w28 := by rw [hw28]; exact (Below.refl _ _).alloc (Nat.le_refl _) _
            have NB : RB w28 w27.heap.size tp tq := by rw [hw28]; exact RB.new _ _ _
            have F_28 := Lib.hid (F_27.out.below b9)
            have G_28 := Lib.hid (G_27.out.below b9)
            have P_28 := Lib.hid (P_27.out.below b9)
            have R_28 := Lib.hid (R_27.out.below b9)
            have B28 := Lib.hid (B27.out.trans (b9.mono B27.out.size))
            clear F_27 G_27 P_27 R_27 B27
            clear b9
            have Y_28 := Lib.hid NB
            clear NB
            obtain ⟨Yc0, Yc1, _, _⟩ := Y_28.out.cells
            obtain ⟨Rc0, Rc1, _, _⟩ := R_28.out.cells
            rw [hw28] at Yc0 Yc1 Rc0 Rc1
            go_wp2_with fail
            rw [← hw28]
            clear hw28
            clear Yc0 Yc1 Rc0 Rc1
            clear Y_28
            refine (T4.out w28).mono ?_
            rintro e w29 ⟨rfl, b9⟩
            have F_29 := Lib.hid (F_28.out.below b9)
            have G_29 := Lib.hid (G_28.out.below b9)
            have P_29 := Lib.hid (P_28.out.below b9)
            have R_29 := Lib.hid (R_28.out.below b9)
            have B29 := Lib.hid (B28.out.trans (b9.mono B28.out.size))
            clear F_28 G_28 P_28 R_28 B28
            clear b9
            go_wp2_with fail
            go_ret
            exact ⟨rfl, B29.out⟩
        · obtain ⟨af, ⟨z1, z2'⟩, aF, aB⟩ := AT.out rfl
          have A4 := Lib.hid (fun w => fracOfI (-z) t w)
          rw [aF] at A4
          have A5 := Lib.hid (fun w => addI ap aq (-z) t w)
          rw [aB] at A5
          have A6 := Lib.hid (fun w => isFracI ap aq w)
          rw [af] at A6
          clear af aF aB
          have WZ : IntKind.i64.wrap (-z) = -z := IntWalk.i64_in _ (by omega)
          obtain ⟨Fc0, Fc1, _, _⟩ := F_26.out.cells
          obtain ⟨Gc0, Gc1, _, _⟩ := G_26.out.cells
          go_wp2_with fail
          clear Fc0 Fc1 Gc0 Gc1
          refine (A3.out w26).mono ?_
          rintro e w27 ⟨rfl, b9⟩
          have F_27 := Lib.hid (F_26.out.below b9)
          have G_27 := Lib.hid (G_26.out.below b9)
          have P_27 := Lib.hid (P_26.out.below b9)
          have R_27 := Lib.hid (R_26.out.below b9)
          have B27 := Lib.hid (B26.out.trans (b9.mono B26.out.size))
          clear F_26 G_26 P_26 R_26 B26
          clear b9
          obtain ⟨w28, hw28⟩ : ∃ w28, w28 = w27.alloc (.cells #[.int .i64 ap, .int .i64 aq] 55) := ⟨_, rfl⟩
          have b9 : Below w27.heap.size w27 w28 := by rw [hw28]; exact (Below.refl _ _).alloc (Nat.le_refl _) _
          have NB : RB w28 w27.heap.size ap aq := by rw [hw28]; exact RB.new _ _ _
          have F_28 := Lib.hid (F_27.out.below b9)
          have G_28 := Lib.hid (G_27.out.below b9)
          have P_28 := Lib.hid (P_27.out.below b9)
          have R_28 := Lib.hid (R_27.out.below b9)
          have B28 := Lib.hid (B27.out.trans (b9.mono B27.out.size))
          clear F_27 G_27 P_27 R_27 B27
          clear b9
          have Q_28 := Lib.hid NB
          clear NB
          obtain ⟨Fc0, Fc1, _, _⟩ := F_28.out.cells
          obtain ⟨Gc0, Gc1, _, _⟩ := G_28.out.cells
          rw [hw28] at Fc0 Fc1 Gc0 Gc1
          go_wp2_with fail
          rw [← hw28]
          clear hw28
          clear Fc0 Fc1 Gc0 Gc1
          refine (A4.out w28).mono ?_
          rintro e w29 ⟨rfl, b9⟩
          have F_29 := Lib.hid (F_28.out.below b9)
          have G_29 := Lib.hid (G_28.out.below b9)
          have P_29 := Lib.hid (P_28.out.below b9)
          have R_29 := Lib.hid (R_28.out.below b9)
          have Q_29 := Lib.hid (Q_28.out.below b9)
          have B29 := Lib.hid (B28.out.trans (b9.mono B28.out.size))
          clear F_28 G_28 P_28 R_28 Q_28 B28
          clear b9
          obtain ⟨w30, hw30⟩ : ∃ w30, w30 = w29.alloc (.cells #[.int .i64 (-z), .int .i64 t] 55) := ⟨_, rfl⟩
          have b9 : Below w29.heap.size w29 w30 := by rw [hw30]; exact (Below.refl _ _).alloc (Nat.le_refl _) _
          have NB : RB w30 w29.heap.size (-z) t := by rw [hw30]; exact RB.new _ _ _
          have F_30 := Lib.hid (F_29.out.below b9)
          have G_30 := Lib.hid (G_29.out.below b9)
          have P_30 := Lib.hid (P_29.out.below b9)
          have R_30 := Lib.hid (R_29.out.below b9)
          have Q_30 := Lib.hid (Q_29.out.below b9)
          have B30 := Lib.hid (B29.out.trans (b9.mono B29.out.size))
          clear F_29 G_29 P_29 R_29 Q_29 B29
          clear b9
          have U_30 := Lib.hid NB
          clear NB
          obtain ⟨Pc0, Pc1, _, _⟩ := P_30.out.cells
          obtain ⟨Qc0, Qc1, _, _⟩ := Q_30.out.cells
          rw [hw30] at Pc0 Pc1 Qc0 Qc1
          go_wp2_with fail
          rw [← hw30]
          clear hw30
          clear Pc0 Pc1 Qc0 Qc1
          clear Q_30
          refine (A6.out w30).mono ?_
          rintro e w31 ⟨rfl, b9⟩
          have F_31 := Lib.hid (F_30.out.below b9)
          have G_31 := Lib.hid (G_30.out.below b9)
          have P_31 := Lib.hid (P_30.out.below b9)
          have R_31 := Lib.hid (R_30.out.below b9)
          have U_31 := Lib.hid (U_30.out.below b9)
          have B31 := Lib.hid (B30.out.trans (b9.mono B30.out.size))
          clear F_30 G_30 P_30 R_30 U_30 B30
          clear b9
          obtain ⟨Pc0, Pc1, _, _⟩ := P_31.out.cells
          obtain ⟨Uc0, Uc1, _, _⟩ := U_31.out.cells
          go_wp2_with fail
          clear Pc0 Pc1 Uc0 Uc1
          clear U_31
          refine (A5.out w31).mono ?_
          rintro e w32 ⟨rfl, b9⟩
          have F_32 := Lib.hid (F_31.out.below b9)
          have G_32 := Lib.hid (G_31.out.below b9)
          have P_32 := Lib.hid (P_31.out.below b9)
          have R_32 := Lib.hid (R_31.out.below b9)
          have B32 := Lib.hid (B31.out.trans (b9.mono B31.out.size))
          clear F_31 G_31 P_31 R_31 B31
          clear b9
          obtain ⟨w33, hw33⟩ : ∃ w33, w33 = w32.alloc (.cells #[.int .i64 x, .int .i64 y] 55) := ⟨_, rfl⟩
          have b9 : Below w32.heap.size w32 w33 := by rw [hw33]; exact (Below.refl _ _).alloc (Nat.le_refl _) _
          have NB : RB w33 w32.heap.size x y := by rw [hw33]; exact RB.new _ _ _
          have F_33 := Lib.hid (F_32.out.below b9)
          have G_33 := Lib.hid (G_32.out.below b9)
          have P_33 := Lib.hid (P_32.out.below b9)
          have R_33 := Lib.hid (R_32.out.below b9)
          have B33 := Lib.hid (B32.out.trans (b9.mono B32.out.size))
          clear F_32 G_32 P_32 R_32 B32
          clear b9
          have Q_33 := Lib.hid NB
          clear NB
          cases tok
          · skip
            obtain ⟨Fc0, Fc1, _, _⟩ := F_33.out.cells
            obtain ⟨Qc0, Qc1, _, _⟩ := Q_33.out.cells
            rw [hw33] at Fc0 Fc1 Qc0 Qc1
            go_wp2_with fail
            rw [← hw33]
            go_ret
            exact ⟨rfl, B33.out⟩
          · have tf := TT.out rfl
            have T4 := Lib.hid (fun w => isFracI tp tq w)
            rw [tf] at T4
            clear tf
            obtain ⟨Fc0, Fc1, _, _⟩ := F_33.out.cells
            obtain ⟨Gc0, Gc1, _, _⟩ := G_33.out.cells
            obtain ⟨Qc0, Qc1, _, _⟩ := Q_33.out.cells
            rw [hw33] at Fc0 Fc1 Gc0 Gc1 Qc0 Qc1
            go_wp2_with fail
            rw [← hw33]
            clear hw33
            clear Fc0 Fc1 Gc0 Gc1 Qc0 Qc1
            refine (T3.out w33).mono ?_
            rintro e w34 ⟨rfl, b9⟩
            have F_34 := Lib.hid (F_33.out.below b9)
            have G_34 := Lib.hid (G_33.out.below b9)
            have P_34 := Lib.hid (P_33.out.below b9)
            have R_34 := Lib.hid (R_33.out.below b9)
            have Q_34 := Lib.hid (Q_33.out.below b9)
            have B34 := Lib.hid (B33.out.trans (b9.mono B33.out.size))
            clear F_33 G_33 P_33 R_33 Q_33 B33
            clear b9
            obtain ⟨w35, hw35⟩ : ∃ w35, w35 = w34.alloc (.cells #[.int .i64 tp, .int .i64 tq] 55) := ⟨_, rfl⟩
            have b9 : Below w34.heap.size w34 w35 := by rw [hw35]; exact (Below.refl _ _).alloc (Nat.le_refl _) _
            have NB : RB w35 w34.heap.size tp tq := by rw [hw35]; exact RB.new _ _ _
            have F_35 := Lib.hid (F_34.out.below b9)
            have G_35 := Lib.hid (G_34.out.below b9)
            have P_35 := Lib.hid (P_34.out.below b9)
            have R_35 := Lib.hid (R_34.out.below b9)
            have Q_35 := Lib.hid (Q_34.out.below b9)
            have B35 := Lib.hid (B34.out.trans (b9.mono B34.out.size))
            clear F_34 G_34 P_34 R_34 Q_34 B34
            clear b9
            have Y_35 := Lib.hid NB
            clear NB
            obtain ⟨Yc0, Yc1, _, _⟩ := Y_35.out.cells
            obtain ⟨Rc0, Rc1, _, _⟩ := R_35.out.cells
            rw [hw35] at Yc0 Yc1 Rc0 Rc1
            go_wp2_with fail
            rw [← hw35]
            clear hw35
            clear Yc0 Yc1 Rc0 Rc1
            clear Y_35
            refine (T4.out w35).mono ?_
            rintro e w36 ⟨rfl, b9⟩
            have F_36 := Lib.hid (F_35.out.below b9)
            have G_36 := Lib.hid (G_35.out.below b9)
            have P_36 := Lib.hid (P_35.out.below b9)
            have R_36 := Lib.hid (R_35.out.below b9)
            have Q_36 := Lib.hid (Q_35.out.below b9)
            have B36 := Lib.hid (B35.out.trans (b9.mono B35.out.size))
            clear F_35 G_35 P_35 R_35 Q_35 B35
            clear b9
            go_wp2_with fail
            go_ret
            exact ⟨rfl, B36.out⟩
    · have FV := FT.out rfl
      have FI := Lib.hid (fun w => isFracI fp fq w)
      rw [FV] at FI
      clear FV
      obtain ⟨Kc0, Kc1, _, _⟩ := K_22.out.cells
      obtain ⟨Qc0, Qc1, _, _⟩ := Q_22.out.cells
      rw [hw22] at Kc0 Kc1 Qc0 Qc1
      go_wp2_with fail
      rw [← hw22]
      clear hw22
      clear Kc0 Kc1 Qc0 Qc1
      refine (FI.out w22).mono ?_
      rintro e w23 ⟨rfl, b9⟩
      have F_23 := Lib.hid (F_22.out.below b9)
      have G_23 := Lib.hid (G_22.out.below b9)
      have P_23 := Lib.hid (P_22.out.below b9)
      have R_23 := Lib.hid (R_22.out.below b9)
      have H_23 := Lib.hid (H_22.out.below b9)
      have J_23 := Lib.hid (J_22.out.below b9)
      have K_23 := Lib.hid (K_22.out.below b9)
      have Q_23 := Lib.hid (Q_22.out.below b9)
      have B23 := Lib.hid (B22.out.trans (b9.mono B22.out.size))
      clear F_22 G_22 P_22 R_22 H_22 J_22 K_22 Q_22 B22
      clear b9
      clear K_23 Q_23
      go_wp2_with fail
      refine (drawIsF n c p _ hn ((BB.out.turned (Nat.le_refl _) (grown_below B23.out _)).more B23.out.size)).mono ?_
      rintro e w24 ⟨⟨i1, i2, rfl⟩, b9⟩
      have F_24 := Lib.hid (F_23.out.below b9)
      have G_24 := Lib.hid (G_23.out.below b9)
      have P_24 := Lib.hid (P_23.out.below b9)
      have R_24 := Lib.hid (R_23.out.below b9)
      have H_24 := Lib.hid (H_23.out.below b9)
      have J_24 := Lib.hid (J_23.out.below b9)
      have B24 := Lib.hid (B23.out.trans (b9.mono B23.out.size))
      clear F_23 G_23 P_23 R_23 H_23 J_23 B23
      clear b9
      obtain ⟨w25, hw25⟩ : ∃ w25, w25 = w24.alloc (.cells #[.int .i64 i1, .int .i64 i2] 55) := ⟨_, rfl⟩
      have b9 : Below w24.heap.size w24 w25 := by rw [hw25]; exact (Below.refl _ _).alloc (Nat.le_refl _) _
      have NB : RB w25 w24.heap.size i1 i2 := by rw [hw25]; exact RB.new _ _ _
      have F_25 := Lib.hid (F_24.out.below b9)
      have G_25 := Lib.hid (G_24.out.below b9)
      have P_25 := Lib.hid (P_24.out.below b9)
      have R_25 := Lib.hid (R_24.out.below b9)
      have H_25 := Lib.hid (H_24.out.below b9)
      have J_25 := Lib.hid (J_24.out.below b9)
      have B25 := Lib.hid (B24.out.trans (b9.mono B24.out.size))
      clear F_24 G_24 P_24 R_24 H_24 J_24 B24
      clear b9
      have V_25 := Lib.hid NB
      clear NB
      go_upto_region 23 with fail
      rw [← hw25]
      clear hw25
      obtain ⟨v, hv⟩ : ∃ v, v = isFr i1 i2 := ⟨_, rfl⟩
      have V1 := Lib.hid (fun w => isFracI i1 i2 w)
      have V2 := Lib.hid (fun w => isFracM i1 i2 w)
      rw [← hv] at V1 V2
      clear hv
      have KV : Hid (∀ w', Below w25.heap.size w25 w' → w'.cell? ⟨w24.heap.size, 0, none⟩ = some (.int .i64 i1) ∧ w'.cell? ⟨w24.heap.size, 1, none⟩ = some (.int .i64 i2)) := Lib.hid (fun w' hb => (V_25.out.below hb).two)
      obtain ⟨Vc0, Vc1⟩ := KV.out w25 (Below.refl _ _)
      go_cut [147] (fun s wx => s = .bool false ∧ Hid (Below w25.heap.size w25 wx))
      case first =>
        go_region_held3 (fun w' => w'.cell? ⟨w24.heap.size, 0, none⟩ = some (.int .i64 i1) ∧ w'.cell? ⟨w24.heap.size, 1, none⟩ = some (.int .i64 i2) ∧ Below w25.heap.size w25 w')
          ((refine and2b (KV.out _) ?_; (repeat' (first | assumption | with_reducible refine below_drew ?_ | with_reducible exact Below.refl _ _))))
          (first
            | (go_at_call 53; (with_reducible refine (V1.out _).mono ?_); rintro e w91 ⟨rfl, c1⟩; have hb1 : Below w25.heap.size w25 w91 := (by (apply fBW_next c1; (repeat' (first | assumption | with_reducible refine below_drew ?_ | with_reducible exact Below.refl _ _)))); clear c1)
            | (go_at_call 55; (with_reducible refine (V2.out _).mono ?_); rintro e w92 ⟨rfl, c2⟩; have hb2 : Below w25.heap.size w25 w92 := (by (apply fBW_next c2; (repeat' (first | assumption | with_reducible refine below_drew ?_ | with_reducible exact Below.refl _ _)))); clear c2))
        all_goals (go_wp2_with fail; go_meet; exact ⟨by simp, Lib.hid (by assumption)⟩)
      obtain ⟨rfl, h9⟩ := hcut
      obtain ⟨w26, rfl⟩ : ∃ w9 : World, w9 = wc := ⟨_, rfl⟩
      have b9 := h9.out
      clear h9 KV V1 V2 Vc0 Vc1
      clear V_25
      have F_26 := Lib.hid (F_25.out.below b9)
      have G_26 := Lib.hid (G_25.out.below b9)
      have P_26 := Lib.hid (P_25.out.below b9)
      have R_26 := Lib.hid (R_25.out.below b9)
      have H_26 := Lib.hid (H_25.out.below b9)
      have J_26 := Lib.hid (J_25.out.below b9)
      have B26 := Lib.hid (B25.out.trans (b9.mono B25.out.size))
      clear F_25 G_25 P_25 R_25 H_25 J_25 B25
      clear b9
      cases cok
      · skip
        clear H_26 J_26
        cases aok
        · skip
          cases tok
          · skip
            go_wp2_with fail
            go_ret
            exact ⟨rfl, B26.out⟩
          · have tf := TT.out rfl
            have T4 := Lib.hid (fun w => isFracI tp tq w)
            rw [tf] at T4
            clear tf
            obtain ⟨Fc0, Fc1, _, _⟩ := F_26.out.cells
            obtain ⟨Gc0, Gc1, _, _⟩ := G_26.out.cells
            go_wp2_with fail
            clear Fc0 Fc1 Gc0 Gc1
            refine (T3.out w26).mono ?_
            rintro e w27 ⟨rfl, b9⟩
            have F_27 := Lib.hid (F_26.out.below b9)
            have G_27 := Lib.hid (G_26.out.below b9)
            have P_27 := Lib.hid (P_26.out.below b9)
            have R_27 := Lib.hid (R_26.out.below b9)
            have B27 := Lib.hid (B26.out.trans (b9.mono B26.out.size))
            clear F_26 G_26 P_26 R_26 B26
            clear b9
            obtain ⟨w28, hw28⟩ : ∃ w28, w28 = w27.alloc (.cells #[.int .i64 tp, .int .i64 tq] 55) := ⟨_, rfl⟩
            have b9 : Below w27.heap.size w27 w28 := by rw [hw28]; exact (Below.refl _ _).alloc (Nat.le_refl _) _
            have NB : RB w28 w27.heap.size tp tq := by rw [hw28]; exact RB.new _ _ _
            have F_28 := Lib.hid (F_27.out.below b9)
            have G_28 := Lib.hid (G_27.out.below b9)
            have P_28 := Lib.hid (P_27.out.below b9)
            have R_28 := Lib.hid (R_27.out.below b9)
            have B28 := Lib.hid (B27.out.trans (b9.mono B27.out.size))
            clear F_27 G_27 P_27 R_27 B27
            clear b9
            have Y_28 := Lib.hid NB
            clear NB
            obtain ⟨Yc0, Yc1, _, _⟩ := Y_28.out.cells
            obtain ⟨Rc0, Rc1, _, _⟩ := R_28.out.cells
            rw [hw28] at Yc0 Yc1 Rc0 Rc1
            go_wp2_with fail
            rw [← hw28]
            clear hw28
            clear Yc0 Yc1 Rc0 Rc1
            clear Y_28
            refine (T4.out w28).mono ?_
            rintro e w29 ⟨rfl, b9⟩
            have F_29 := Lib.hid (F_28.out.below b9)
            have G_29 := Lib.hid (G_28.out.below b9)
            have P_29 := Lib.hid (P_28.out.below b9)
            have R_29 := Lib.hid (R_28.out.below b9)
            have B29 := Lib.hid (B28.out.trans (b9.mono B28.out.size))
            clear F_28 G_28 P_28 R_28 B28
            clear b9
            go_wp2_with fail
            go_ret
            exact ⟨rfl, B29.out⟩
        · obtain ⟨af, ⟨z1, z2'⟩, aF, aB⟩ := AT.out rfl
          have A4 := Lib.hid (fun w => fracOfI (-z) t w)
          rw [aF] at A4
          have A5 := Lib.hid (fun w => addI ap aq (-z) t w)
          rw [aB] at A5
          have A6 := Lib.hid (fun w => isFracI ap aq w)
          rw [af] at A6
          clear af aF aB
          have WZ : IntKind.i64.wrap (-z) = -z := IntWalk.i64_in _ (by omega)
          obtain ⟨Fc0, Fc1, _, _⟩ := F_26.out.cells
          obtain ⟨Gc0, Gc1, _, _⟩ := G_26.out.cells
          go_wp2_with fail
          clear Fc0 Fc1 Gc0 Gc1
          refine (A3.out w26).mono ?_
          rintro e w27 ⟨rfl, b9⟩
          have F_27 := Lib.hid (F_26.out.below b9)
          have G_27 := Lib.hid (G_26.out.below b9)
          have P_27 := Lib.hid (P_26.out.below b9)
          have R_27 := Lib.hid (R_26.out.below b9)
          have B27 := Lib.hid (B26.out.trans (b9.mono B26.out.size))
          clear F_26 G_26 P_26 R_26 B26
          clear b9
          obtain ⟨w28, hw28⟩ : ∃ w28, w28 = w27.alloc (.cells #[.int .i64 ap, .int .i64 aq] 55) := ⟨_, rfl⟩
          have b9 : Below w27.heap.size w27 w28 := by rw [hw28]; exact (Below.refl _ _).alloc (Nat.le_refl _) _
          have NB : RB w28 w27.heap.size ap aq := by rw [hw28]; exact RB.new _ _ _
          have F_28 := Lib.hid (F_27.out.below b9)
          have G_28 := Lib.hid (G_27.out.below b9)
          have P_28 := Lib.hid (P_27.out.below b9)
          have R_28 := Lib.hid (R_27.out.below b9)
          have B28 := Lib.hid (B27.out.trans (b9.mono B27.out.size))
          clear F_27 G_27 P_27 R_27 B27
          clear b9
          have Q_28 := Lib.hid NB
          clear NB
          obtain ⟨Fc0, Fc1, _, _⟩ := F_28.out.cells
          obtain ⟨Gc0, Gc1, _, _⟩ := G_28.out.cells
          rw [hw28] at Fc0 Fc1 Gc0 Gc1
          go_wp2_with fail
          rw [← hw28]
          clear hw28
          clear Fc0 Fc1 Gc0 Gc1
          refine (A4.out w28).mono ?_
          rintro e w29 ⟨rfl, b9⟩
          have F_29 := Lib.hid (F_28.out.below b9)
          have G_29 := Lib.hid (G_28.out.below b9)
          have P_29 := Lib.hid (P_28.out.below b9)
          have R_29 := Lib.hid (R_28.out.below b9)
          have Q_29 := Lib.hid (Q_28.out.below b9)
          have B29 := Lib.hid (B28.out.trans (b9.mono B28.out.size))
          clear F_28 G_28 P_28 R_28 Q_28 B28
          clear b9
          obtain ⟨w30, hw30⟩ : ∃ w30, w30 = w29.alloc (.cells #[.int .i64 (-z), .int .i64 t] 55) := ⟨_, rfl⟩
          have b9 : Below w29.heap.size w29 w30 := by rw [hw30]; exact (Below.refl _ _).alloc (Nat.le_refl _) _
          have NB : RB w30 w29.heap.size (-z) t := by rw [hw30]; exact RB.new _ _ _
          have F_30 := Lib.hid (F_29.out.below b9)
          have G_30 := Lib.hid (G_29.out.below b9)
          have P_30 := Lib.hid (P_29.out.below b9)
          have R_30 := Lib.hid (R_29.out.below b9)
          have Q_30 := Lib.hid (Q_29.out.below b9)
          have B30 := Lib.hid (B29.out.trans (b9.mono B29.out.size))
          clear F_29 G_29 P_29 R_29 Q_29 B29
          clear b9
          have U_30 := Lib.hid NB
          clear NB
          obtain ⟨Pc0, Pc1, _, _⟩ := P_30.out.cells
          obtain ⟨Qc0, Qc1, _, _⟩ := Q_30.out.cells
          rw [hw30] at Pc0 Pc1 Qc0 Qc1
          go_wp2_with fail
          rw [← hw30]
          clear hw30
          clear Pc0 Pc1 Qc0 Qc1
          clear Q_30
          refine (A6.out w30).mono ?_
          rintro e w31 ⟨rfl, b9⟩
          have F_31 := Lib.hid (F_30.out.below b9)
          have G_31 := Lib.hid (G_30.out.below b9)
          have P_31 := Lib.hid (P_30.out.below b9)
          have R_31 := Lib.hid (R_30.out.below b9)
          have U_31 := Lib.hid (U_30.out.below b9)
          have B31 := Lib.hid (B30.out.trans (b9.mono B30.out.size))
          clear F_30 G_30 P_30 R_30 U_30 B30
          clear b9
          obtain ⟨Pc0, Pc1, _, _⟩ := P_31.out.cells
          obtain ⟨Uc0, Uc1, _, _⟩ := U_31.out.cells
          go_wp2_with fail
          clear Pc0 Pc1 Uc0 Uc1
          clear U_31
          refine (A5.out w31).mono ?_
          rintro e w32 ⟨rfl, b9⟩
          have F_32 := Lib.hid (F_31.out.below b9)
          have G_32 := Lib.hid (G_31.out.below b9)
          have P_32 := Lib.hid (P_31.out.below b9)
          have R_32 := Lib.hid (R_31.out.below b9)
          have B32 := Lib.hid (B31.out.trans (b9.mono B31.out.size))
          clear F_31 G_31 P_31 R_31 B31
          clear b9
          obtain ⟨w33, hw33⟩ : ∃ w33, w33 = w32.alloc (.cells #[.int .i64 x, .int .i64 y] 55) := ⟨_, rfl⟩
          have b9 : Below w32.heap.size w32 w33 := by rw [hw33]; exact (Below.refl _ _).alloc (Nat.le_refl _) _
          have NB : RB w33 w32.heap.size x y := by rw [hw33]; exact RB.new _ _ _
          have F_33 := Lib.hid (F_32.out.below b9)
          have G_33 := Lib.hid (G_32.out.below b9)
          have P_33 := Lib.hid (P_32.out.below b9)
          have R_33 := Lib.hid (R_32.out.below b9)
          have B33 := Lib.hid (B32.out.trans (b9.mono B32.out.size))
          clear F_32 G_32 P_32 R_32 B32
          clear b9
          have Q_33 := Lib.hid NB
          clear NB
          cases tok
          · skip
            obtain ⟨Fc0, Fc1, _, _⟩ := F_33.out.cells
            obtain ⟨Qc0, Qc1, _, _⟩ := Q_33.out.cells
            rw [hw33] at Fc0 Fc1 Qc0 Qc1
            go_wp2_with fail
            rw [← hw33]
            go_ret
            exact ⟨rfl, B33.out⟩
          · have tf := TT.out rfl
            have T4 := Lib.hid (fun w => isFracI tp tq w)
            rw [tf] at T4
            clear tf
            obtain ⟨Fc0, Fc1, _, _⟩ := F_33.out.cells
            obtain ⟨Gc0, Gc1, _, _⟩ := G_33.out.cells
            obtain ⟨Qc0, Qc1, _, _⟩ := Q_33.out.cells
            rw [hw33] at Fc0 Fc1 Gc0 Gc1 Qc0 Qc1
            go_wp2_with fail
            rw [← hw33]
            clear hw33
            clear Fc0 Fc1 Gc0 Gc1 Qc0 Qc1
            refine (T3.out w33).mono ?_
            rintro e w34 ⟨rfl, b9⟩
            have F_34 := Lib.hid (F_33.out.below b9)
            have G_34 := Lib.hid (G_33.out.below b9)
            have P_34 := Lib.hid (P_33.out.below b9)
            have R_34 := Lib.hid (R_33.out.below b9)
            have Q_34 := Lib.hid (Q_33.out.below b9)
            have B34 := Lib.hid (B33.out.trans (b9.mono B33.out.size))
            clear F_33 G_33 P_33 R_33 Q_33 B33
            clear b9
            obtain ⟨w35, hw35⟩ : ∃ w35, w35 = w34.alloc (.cells #[.int .i64 tp, .int .i64 tq] 55) := ⟨_, rfl⟩
            have b9 : Below w34.heap.size w34 w35 := by rw [hw35]; exact (Below.refl _ _).alloc (Nat.le_refl _) _
            have NB : RB w35 w34.heap.size tp tq := by rw [hw35]; exact RB.new _ _ _
            have F_35 := Lib.hid (F_34.out.below b9)
            have G_35 := Lib.hid (G_34.out.below b9)
            have P_35 := Lib.hid (P_34.out.below b9)
            have R_35 := Lib.hid (R_34.out.below b9)
            have Q_35 := Lib.hid (Q_34.out.below b9)
            have B35 := Lib.hid (B34.out.trans (b9.mono B34.out.size))
            clear F_34 G_34 P_34 R_34 Q_34 B34
            clear b9
            have Y_35 := Lib.hid NB
            clear NB
            obtain ⟨Yc0, Yc1, _, _⟩ := Y_35.out.cells
            obtain ⟨Rc0, Rc1, _, _⟩ := R_35.out.cells
            rw [hw35] at Yc0 Yc1 Rc0 Rc1
            go_wp2_with fail
            rw [← hw35]
            clear hw35
            clear Yc0 Yc1 Rc0 Rc1
            clear Y_35
            refine (T4.out w35).mono ?_
            rintro e w36 ⟨rfl, b9⟩
            have F_36 := Lib.hid (F_35.out.below b9)
            have G_36 := Lib.hid (G_35.out.below b9)
            have P_36 := Lib.hid (P_35.out.below b9)
            have R_36 := Lib.hid (R_35.out.below b9)
            have Q_36 := Lib.hid (Q_35.out.below b9)
            have B36 := Lib.hid (B35.out.trans (b9.mono B35.out.size))
            clear F_35 G_35 P_35 R_35 Q_35 B35
            clear b9
            go_wp2_with fail
            go_ret
            exact ⟨rfl, B36.out⟩
      · have CV := CT.out rfl
        rw [CV] at C3
        clear CV
        have WN : IntKind.i64.wrap (-o) = -o := IntWalk.i64_in _ (by omega)
        obtain ⟨Hc0, Hc1, _, _⟩ := H_26.out.cells
        obtain ⟨Jc0, Jc1, _, _⟩ := J_26.out.cells
        go_wp2_with fail
        clear Hc0 Hc1 Jc0 Jc1
        refine (C3.out w26).mono ?_
        rintro e w27 ⟨rfl, b9⟩
        have F_27 := Lib.hid (F_26.out.below b9)
        have G_27 := Lib.hid (G_26.out.below b9)
        have P_27 := Lib.hid (P_26.out.below b9)
        have R_27 := Lib.hid (R_26.out.below b9)
        have H_27 := Lib.hid (H_26.out.below b9)
        have J_27 := Lib.hid (J_26.out.below b9)
        have B27 := Lib.hid (B26.out.trans (b9.mono B26.out.size))
        clear F_26 G_26 P_26 R_26 H_26 J_26 B26
        clear b9
        clear H_27 J_27
        cases aok
        · skip
          cases tok
          · skip
            go_wp2_with fail
            go_ret
            exact ⟨rfl, B27.out⟩
          · have tf := TT.out rfl
            have T4 := Lib.hid (fun w => isFracI tp tq w)
            rw [tf] at T4
            clear tf
            obtain ⟨Fc0, Fc1, _, _⟩ := F_27.out.cells
            obtain ⟨Gc0, Gc1, _, _⟩ := G_27.out.cells
            go_wp2_with fail
            clear Fc0 Fc1 Gc0 Gc1
            refine (T3.out w27).mono ?_
            rintro e w28 ⟨rfl, b9⟩
            have F_28 := Lib.hid (F_27.out.below b9)
            have G_28 := Lib.hid (G_27.out.below b9)
            have P_28 := Lib.hid (P_27.out.below b9)
            have R_28 := Lib.hid (R_27.out.below b9)
            have B28 := Lib.hid (B27.out.trans (b9.mono B27.out.size))
            clear F_27 G_27 P_27 R_27 B27
            clear b9
            obtain ⟨w29, hw29⟩ : ∃ w29, w29 = w28.alloc (.cells #[.int .i64 tp, .int .i64 tq] 55) := ⟨_, rfl⟩
            have b9 : Below w28.heap.size w28 w29 := by rw [hw29]; exact (Below.refl _ _).alloc (Nat.le_refl _) _
            have NB : RB w29 w28.heap.size tp tq := by rw [hw29]; exact RB.new _ _ _
            have F_29 := Lib.hid (F_28.out.below b9)
            have G_29 := Lib.hid (G_28.out.below b9)
            have P_29 := Lib.hid (P_28.out.below b9)
            have R_29 := Lib.hid (R_28.out.below b9)
            have B29 := Lib.hid (B28.out.trans (b9.mono B28.out.size))
            clear F_28 G_28 P_28 R_28 B28
            clear b9
            have Y_29 := Lib.hid NB
            clear NB
            obtain ⟨Yc0, Yc1, _, _⟩ := Y_29.out.cells
            obtain ⟨Rc0, Rc1, _, _⟩ := R_29.out.cells
            rw [hw29] at Yc0 Yc1 Rc0 Rc1
            go_wp2_with fail
            rw [← hw29]
            clear hw29
            clear Yc0 Yc1 Rc0 Rc1
            clear Y_29
            refine (T4.out w29).mono ?_
            rintro e w30 ⟨rfl, b9⟩
            have F_30 := Lib.hid (F_29.out.below b9)
            have G_30 := Lib.hid (G_29.out.below b9)
            have P_30 := Lib.hid (P_29.out.below b9)
            have R_30 := Lib.hid (R_29.out.below b9)
            have B30 := Lib.hid (B29.out.trans (b9.mono B29.out.size))
            clear F_29 G_29 P_29 R_29 B29
            clear b9
            go_wp2_with fail
            go_ret
            exact ⟨rfl, B30.out⟩
        · obtain ⟨af, ⟨z1, z2'⟩, aF, aB⟩ := AT.out rfl
          have A4 := Lib.hid (fun w => fracOfI (-z) t w)
          rw [aF] at A4
          have A5 := Lib.hid (fun w => addI ap aq (-z) t w)
          rw [aB] at A5
          have A6 := Lib.hid (fun w => isFracI ap aq w)
          rw [af] at A6
          clear af aF aB
          have WZ : IntKind.i64.wrap (-z) = -z := IntWalk.i64_in _ (by omega)
          obtain ⟨Fc0, Fc1, _, _⟩ := F_27.out.cells
          obtain ⟨Gc0, Gc1, _, _⟩ := G_27.out.cells
          go_wp2_with fail
          clear Fc0 Fc1 Gc0 Gc1
          refine (A3.out w27).mono ?_
          rintro e w28 ⟨rfl, b9⟩
          have F_28 := Lib.hid (F_27.out.below b9)
          have G_28 := Lib.hid (G_27.out.below b9)
          have P_28 := Lib.hid (P_27.out.below b9)
          have R_28 := Lib.hid (R_27.out.below b9)
          have B28 := Lib.hid (B27.out.trans (b9.mono B27.out.size))
          clear F_27 G_27 P_27 R_27 B27
          clear b9
          obtain ⟨w29, hw29⟩ : ∃ w29, w29 = w28.alloc (.cells #[.int .i64 ap, .int .i64 aq] 55) := ⟨_, rfl⟩
          have b9 : Below w28.heap.size w28 w29 := by rw [hw29]; exact (Below.refl _ _).alloc (Nat.le_refl _) _
          have NB : RB w29 w28.heap.size ap aq := by rw [hw29]; exact RB.new _ _ _
          have F_29 := Lib.hid (F_28.out.below b9)
          have G_29 := Lib.hid (G_28.out.below b9)
          have P_29 := Lib.hid (P_28.out.below b9)
          have R_29 := Lib.hid (R_28.out.below b9)
          have B29 := Lib.hid (B28.out.trans (b9.mono B28.out.size))
          clear F_28 G_28 P_28 R_28 B28
          clear b9
          have Q_29 := Lib.hid NB
          clear NB
          obtain ⟨Fc0, Fc1, _, _⟩ := F_29.out.cells
          obtain ⟨Gc0, Gc1, _, _⟩ := G_29.out.cells
          rw [hw29] at Fc0 Fc1 Gc0 Gc1
          go_wp2_with fail
          rw [← hw29]
          clear hw29
          clear Fc0 Fc1 Gc0 Gc1
          refine (A4.out w29).mono ?_
          rintro e w30 ⟨rfl, b9⟩
          have F_30 := Lib.hid (F_29.out.below b9)
          have G_30 := Lib.hid (G_29.out.below b9)
          have P_30 := Lib.hid (P_29.out.below b9)
          have R_30 := Lib.hid (R_29.out.below b9)
          have Q_30 := Lib.hid (Q_29.out.below b9)
          have B30 := Lib.hid (B29.out.trans (b9.mono B29.out.size))
          clear F_29 G_29 P_29 R_29 Q_29 B29
          clear b9
          obtain ⟨w31, hw31⟩ : ∃ w31, w31 = w30.alloc (.cells #[.int .i64 (-z), .int .i64 t] 55) := ⟨_, rfl⟩
          have b9 : Below w30.heap.size w30 w31 := by rw [hw31]; exact (Below.refl _ _).alloc (Nat.le_refl _) _
          have NB : RB w31 w30.heap.size (-z) t := by rw [hw31]; exact RB.new _ _ _
          have F_31 := Lib.hid (F_30.out.below b9)
          have G_31 := Lib.hid (G_30.out.below b9)
          have P_31 := Lib.hid (P_30.out.below b9)
          have R_31 := Lib.hid (R_30.out.below b9)
          have Q_31 := Lib.hid (Q_30.out.below b9)
          have B31 := Lib.hid (B30.out.trans (b9.mono B30.out.size))
          clear F_30 G_30 P_30 R_30 Q_30 B30
          clear b9
          have U_31 := Lib.hid NB
          clear NB
          obtain ⟨Pc0, Pc1, _, _⟩ := P_31.out.cells
          obtain ⟨Qc0, Qc1, _, _⟩ := Q_31.out.cells
          rw [hw31] at Pc0 Pc1 Qc0 Qc1
          go_wp2_with fail
          rw [← hw31]
          clear hw31
          clear Pc0 Pc1 Qc0 Qc1
          clear Q_31
          refine (A6.out w31).mono ?_
          rintro e w32 ⟨rfl, b9⟩
          have F_32 := Lib.hid (F_31.out.below b9)
          have G_32 := Lib.hid (G_31.out.below b9)
          have P_32 := Lib.hid (P_31.out.below b9)
          have R_32 := Lib.hid (R_31.out.below b9)
          have U_32 := Lib.hid (U_31.out.below b9)
          have B32 := Lib.hid (B31.out.trans (b9.mono B31.out.size))
          clear F_31 G_31 P_31 R_31 U_31 B31
          clear b9
          obtain ⟨Pc0, Pc1, _, _⟩ := P_32.out.cells
          obtain ⟨Uc0, Uc1, _, _⟩ := U_32.out.cells
          go_wp2_with fail
          clear Pc0 Pc1 Uc0 Uc1
          clear U_32
          refine (A5.out w32).mono ?_
          rintro e w33 ⟨rfl, b9⟩
          have F_33 := Lib.hid (F_32.out.below b9)
          have G_33 := Lib.hid (G_32.out.below b9)
          have P_33 := Lib.hid (P_32.out.below b9)
          have R_33 := Lib.hid (R_32.out.below b9)
          have B33 := Lib.hid (B32.out.trans (b9.mono B32.out.size))
          clear F_32 G_32 P_32 R_32 B32
          clear b9
          obtain ⟨w34, hw34⟩ : ∃ w34, w34 = w33.alloc (.cells #[.int .i64 x, .int .i64 y] 55) := ⟨_, rfl⟩
          have b9 : Below w33.heap.size w33 w34 := by rw [hw34]; exact (Below.refl _ _).alloc (Nat.le_refl _) _
          have NB : RB w34 w33.heap.size x y := by rw [hw34]; exact RB.new _ _ _
          have F_34 := Lib.hid (F_33.out.below b9)
          have G_34 := Lib.hid (G_33.out.below b9)
          have P_34 := Lib.hid (P_33.out.below b9)
          have R_34 := Lib.hid (R_33.out.below b9)
          have B34 := Lib.hid (B33.out.trans (b9.mono B33.out.size))
          clear F_33 G_33 P_33 R_33 B33
          clear b9
          have Q_34 := Lib.hid NB
          clear NB
          cases tok
          · skip
            obtain ⟨Fc0, Fc1, _, _⟩ := F_34.out.cells
            obtain ⟨Qc0, Qc1, _, _⟩ := Q_34.out.cells
            rw [hw34] at Fc0 Fc1 Qc0 Qc1
            go_wp2_with fail
            rw [← hw34]
            go_ret
            exact ⟨rfl, B34.out⟩
          · have tf := TT.out rfl
            have T4 := Lib.hid (fun w => isFracI tp tq w)
            rw [tf] at T4
            clear tf
            obtain ⟨Fc0, Fc1, _, _⟩ := F_34.out.cells
            obtain ⟨Gc0, Gc1, _, _⟩ := G_34.out.cells
            obtain ⟨Qc0, Qc1, _, _⟩ := Q_34.out.cells
            rw [hw34] at Fc0 Fc1 Gc0 Gc1 Qc0 Qc1
            go_wp2_with fail
            rw [← hw34]
            clear hw34
            clear Fc0 Fc1 Gc0 Gc1 Qc0 Qc1
            refine (T3.out w34).mono ?_
            rintro e w35 ⟨rfl, b9⟩
            have F_35 := Lib.hid (F_34.out.below b9)
            have G_35 := Lib.hid (G_34.out.below b9)
            have P_35 := Lib.hid (P_34.out.below b9)
            have R_35 := Lib.hid (R_34.out.below b9)
            have Q_35 := Lib.hid (Q_34.out.below b9)
            have B35 := Lib.hid (B34.out.trans (b9.mono B34.out.size))
            clear F_34 G_34 P_34 R_34 Q_34 B34
            clear b9
            obtain ⟨w36, hw36⟩ : ∃ w36, w36 = w35.alloc (.cells #[.int .i64 tp, .int .i64 tq] 55) := ⟨_, rfl⟩
            have b9 : Below w35.heap.size w35 w36 := by rw [hw36]; exact (Below.refl _ _).alloc (Nat.le_refl _) _
            have NB : RB w36 w35.heap.size tp tq := by rw [hw36]; exact RB.new _ _ _
            have F_36 := Lib.hid (F_35.out.below b9)
            have G_36 := Lib.hid (G_35.out.below b9)
            have P_36 := Lib.hid (P_35.out.below b9)
            have R_36 := Lib.hid (R_35.out.below b9)
            have Q_36 := Lib.hid (Q_35.out.below b9)
            have B36 := Lib.hid (B35.out.trans (b9.mono B35.out.size))
            clear F_35 G_35 P_35 R_35 Q_35 B35
            clear b9
            have Y_36 := Lib.hid NB
            clear NB
            obtain ⟨Yc0, Yc1, _, _⟩ := Y_36.out.cells
            obtain ⟨Rc0, Rc1, _, _⟩ := R_36.out.cells
            rw [hw36] at Yc0 Yc1 Rc0 Rc1
            go_wp2_with fail
            rw [← hw36]
            clear hw36
            clear Yc0 Yc1 Rc0 Rc1
            clear Y_36
            refine (T4.out w36).mono ?_
            rintro e w37 ⟨rfl, b9⟩
            have F_37 := Lib.hid (F_36.out.below b9)
            have G_37 := Lib.hid (G_36.out.below b9)
            have P_37 := Lib.hid (P_36.out.below b9)
            have R_37 := Lib.hid (R_36.out.below b9)
            have Q_37 := Lib.hid (Q_36.out.below b9)
            have B37 := Lib.hid (B36.out.trans (b9.mono B36.out.size))
            clear F_36 G_36 P_36 R_36 Q_36 B36
            clear b9
            go_wp2_with fail
            go_ret
            exact ⟨rfl, B37.out⟩
  · clear hbg
    go_enter Try.func11, Try.ntmps11
    go_wp2_with fail
    refine (E.out W).mono ?_
    rintro e w1 ⟨rfl, b9⟩
    go_wp2_with fail
    go_ret
    exact ⟨rfl, b9⟩
end Go.Proofs.Ytonlibncccljgaa
