/- TeamWins in the program. -/
import Derived.Test.YtligidmkhbcpmaaTmwI
namespace Go.Proofs.Ytligidmkhbcpmaa
open Go.RowKit
set_option linter.unusedVariables false
theorem tm_sh (f : Int) (bs zs : List Int) : tmOk f bs zs = (wdOk f bs && shOk f zs 0 8) := by
  unfold tmOk shOk facOk
  have e : decide (0 ≤ (zs.length : Int) ∧ (zs.length : Int) ≤ 8) = decide (zs.length ≤ 8) := by rw [decide_eq_decide]; omega
  rw [e]
  cases wdOk f bs <;> cases decide (1 ≤ f ∧ f ≤ 6) <;> cases decide (zs.length ≤ 8) <;> cases facB f zs <;> rfl
theorem fac_in {f : Int} {zs : List Int} (hf : f ≤ 6) (h : facB f zs = true) : ∀ z ∈ zs, InI64 z := by
  intro z hz
  obtain ⟨i, hi, e⟩ := List.getElem_of_mem hz
  have := fac_at h hi
  rw [List.getD_eq_getElem?_getD, List.getElem?_eq_getElem hi] at this
  unfold InI64; rw [← e]; simp at this; omega
set_option maxRecDepth 100000 in
set_option maxHeartbeats 8000000 in
theorem twI (f : Int) (bs zs : List Int) (v u : Value) (w : World) (hn : bs.length ≤ 1048576) (hm : zs.length ≤ 1048576) (h : IntsV w w.heap.size v bs) (hu : IntsV w w.heap.size u zs) :
    Calls Try.prog 33 #[.int .i64 f, v, u] w (Gives (.tuple #[.int .i64 (tmV f bs zs), .bool (tmOk f bs zs)]) w) := by
  have WC := Lib.hid (fun w' (hb : Below w.heap.size w w') => wordC f bs v w' hn ((h.below hb).more hb.size))
  have SC := Lib.hid (fun w' (hb : Below w.heap.size w w') => shownC f zs u 0 8 w' hm (by decide) ((hu.below hb).more hb.size))
  have TO := Lib.hid (tm_sh f bs zs)
  obtain ⟨qq, cq, rfl, _⟩ := h
  obtain ⟨qu, cu, rfl, _⟩ := hu
  obtain ⟨zl, z0, z1, z2, z3, z4, z5, z6, z7, SAL, SA⟩ := sh_form (wdZ f bs)
  obtain ⟨yl, y0, y1, y2, y3, y4, y5, y6, y7, SBL, SB⟩ := sh_form (shZ f zs 0 8)
  rw [show shV (wdZ f bs) = .agg (shA (wdZ f bs)) from rfl, SA] at WC
  rw [show shV (shZ f zs 0 8) = .agg (shA (shZ f zs 0 8)) from rfl, SB] at SC
  cases hv : wdOk f bs
  · have ET : tmOk f bs zs = false := by rw [TO.out, hv]; rfl
    rw [show tmV f bs zs = 0 from if_neg (by rw [ET]; decide), ET]
    rw [hv] at WC
    generalize shOk f zs 0 8 = sb at *
    clear hv SA SAL SB SBL TO ET
    go_enter Try.func33, Try.ntmps33
    go_wp2_with fail
    refine (WC.out _ (Below.refl _ _)).mono ?_
    rintro e w1 ⟨rfl, b1⟩
    have HB1 := Lib.hid (b1.alloc b1.size (.cells #[.int .i64 zl, .int .i64 z0, .int .i64 z1, .int .i64 z2, .int .i64 z3, .int .i64 z4, .int .i64 z5, .int .i64 z6, .int .i64 z7] 47))
    clear b1
    go_wp2_with fail
    refine (SC.out _ HB1.out).mono ?_
    rintro e w2 ⟨rfl, b2⟩
    have HB2 := Lib.hid (HB1.out.trans (b2.mono HB1.out.size))
    have HB3 := Lib.hid (HB2.out.alloc HB2.out.size (.cells #[.int .i64 yl, .int .i64 y0, .int .i64 y1, .int .i64 y2, .int .i64 y3, .int .i64 y4, .int .i64 y5, .int .i64 y6, .int .i64 y7] 47))
    clear b2
    go_wp2_with fail
    go_ret2
    exact ⟨rfl, HB3.out⟩
  cases hs : shOk f zs 0 8
  · have ET : tmOk f bs zs = false := by rw [TO.out, hv, hs]; rfl
    rw [show tmV f bs zs = 0 from if_neg (by rw [ET]; decide), ET]
    rw [hv] at WC
    rw [hs] at SC
    clear hv hs SA SAL SB SBL TO ET
    go_enter Try.func33, Try.ntmps33
    go_wp2_with fail
    refine (WC.out _ (Below.refl _ _)).mono ?_
    rintro e w1 ⟨rfl, b1⟩
    have HB1 := Lib.hid (b1.alloc b1.size (.cells #[.int .i64 zl, .int .i64 z0, .int .i64 z1, .int .i64 z2, .int .i64 z3, .int .i64 z4, .int .i64 z5, .int .i64 z6, .int .i64 z7] 47))
    clear b1
    go_wp2_with fail
    refine (SC.out _ HB1.out).mono ?_
    rintro e w2 ⟨rfl, b2⟩
    have HB2 := Lib.hid (HB1.out.trans (b2.mono HB1.out.size))
    have HB3 := Lib.hid (HB2.out.alloc HB2.out.size (.cells #[.int .i64 yl, .int .i64 y0, .int .i64 y1, .int .i64 y2, .int .i64 y3, .int .i64 y4, .int .i64 y5, .int .i64 y6, .int .i64 y7] 47))
    clear b2
    go_wp2_with fail
    go_ret2
    exact ⟨rfl, HB3.out⟩
  have ET : tmOk f bs zs = true := by rw [TO.out, hv, hs]; rfl
  rw [show tmV f bs zs = (wsN f.toNat (utL bs zs) bs : Nat) from if_pos ET, ET]
  rw [hv] at WC
  rw [hs] at SC
  obtain ⟨⟨f1, f2⟩, ⟨l1, l2⟩, hfb⟩ := wd_bd hv
  have hz : wdZ f bs = bs := if_pos hv
  have hy : shZ f zs 0 8 = zs := if_pos hs
  have IB := wd_in f bs
  rw [hz] at SA SAL IB
  rw [hy] at SB SBL
  have hs2 := hs
  unfold shOk at hs2
  rw [Bool.and_eq_true, Bool.and_eq_true, decide_eq_true_eq, decide_eq_true_eq] at hs2
  have IZ := fac_in f2 hs2.2.2
  have z8 : zs.length ≤ 8 := by have := hs2.2.1.2; omega
  obtain ⟨K, rfl⟩ : ∃ K : Nat, f = K := ⟨f.toNat, by omega⟩
  rw [Int.toNat_natCast]
  obtain ⟨rl, r0, r1, r2, r3, r4, r5, r6, r7, SRL, SR⟩ := sh_form (utL bs zs)
  have UC : Hid (∀ w, Calls Try.prog 54 #[.agg #[.int .i64 yl, .int .i64 y0, .int .i64 y1, .int .i64 y2, .int .i64 y3, .int .i64 y4, .int .i64 y5, .int .i64 y6, .int .i64 y7], .agg #[.int .i64 zl, .int .i64 z0, .int .i64 z1, .int .i64 z2, .int .i64 z3, .int .i64 z4, .int .i64 z5, .int .i64 z6, .int .i64 z7]] w (Gives (.agg #[.int .i64 rl, .int .i64 r0, .int .i64 r1, .int .i64 r2, .int .i64 r3, .int .i64 r4, .int .i64 r5, .int .i64 r6, .int .i64 r7]) w)) := Lib.hid (fun w => by
    have h := untC zs bs w z8 (by omega) (by omega) IZ IB
    rw [show shV zs = .agg (shA zs) from rfl, SB, show shV bs = .agg (shA bs) from rfl, SA, show shV (utL bs zs) = .agg (shA (utL bs zs)) from rfl, SR] at h
    exact h)
  have WN : Hid (∀ w, Calls Try.prog 55 #[.agg #[.int .i64 rl, .int .i64 r0, .int .i64 r1, .int .i64 r2, .int .i64 r3, .int .i64 r4, .int .i64 r5, .int .i64 r6, .int .i64 r7], .int .i64 K, .agg #[.int .i64 zl, .int .i64 z0, .int .i64 z1, .int .i64 z2, .int .i64 z3, .int .i64 z4, .int .i64 z5, .int .i64 z6, .int .i64 z7]] w (Gives (.int .i64 (wsN K (utL bs zs) bs : Nat)) w)) := Lib.hid (fun w => by
    have h := winsC9 (utL bs zs) bs K w (by omega) (Nat.le_trans (utL_le _ _) z8) (by omega) (fun z hz => IZ z (utL_mem hz)) IB
    rw [show shV (utL bs zs) = .agg (shA (utL bs zs)) from rfl, SR, show shV bs = .agg (shA bs) from rfl, SA] at h
    exact h)
  obtain ⟨r, hr⟩ : ∃ r : Int, r = (wsN K (utL bs zs) bs : Nat) := ⟨_, rfl⟩
  rw [← hr] at WN ⊢
  clear hv hs SA SAL SB SBL SR SRL hz hy hs2 IB IZ z8 hfb hr TO ET hn hm
  go_enter Try.func33, Try.ntmps33
  go_wp2_with fail
  refine (WC.out _ (Below.refl _ _)).mono ?_
  rintro e w1 ⟨rfl, b1⟩
  have HB1 := Lib.hid (b1.alloc b1.size (.cells #[.int .i64 zl, .int .i64 z0, .int .i64 z1, .int .i64 z2, .int .i64 z3, .int .i64 z4, .int .i64 z5, .int .i64 z6, .int .i64 z7] 47))
  have Z1 := Lib.hid (alloc_heap w1 (.cells #[.int .i64 zl, .int .i64 z0, .int .i64 z1, .int .i64 z2, .int .i64 z3, .int .i64 z4, .int .i64 z5, .int .i64 z6, .int .i64 z7] 47))
  clear b1
  go_wp2_with fail
  refine (SC.out _ HB1.out).mono ?_
  rintro e w2 ⟨rfl, b2⟩
  have HB2 := Lib.hid (HB1.out.trans (b2.mono HB1.out.size))
  have Z2 := Lib.hid ((b2.block _ (by simp)).trans Z1.out)
  have HB3 := Lib.hid (HB2.out.alloc HB2.out.size (.cells #[.int .i64 yl, .int .i64 y0, .int .i64 y1, .int .i64 y2, .int .i64 y3, .int .i64 y4, .int .i64 y5, .int .i64 y6, .int .i64 y7] 47))
  clear b2
  have Z3 := Lib.hid (((Below.refl w2.heap.size w2).alloc (Nat.le_refl _) (.cells #[.int .i64 yl, .int .i64 y0, .int .i64 y1, .int .i64 y2, .int .i64 y3, .int .i64 y4, .int .i64 y5, .int .i64 y6, .int .i64 y7] 47)).block w1.heap.size (Array.getElem?_eq_some_iff.1 Z2.out).1 |>.trans Z2.out)
  have Y3 := Lib.hid (alloc_heap w2 (.cells #[.int .i64 yl, .int .i64 y0, .int .i64 y1, .int .i64 y2, .int .i64 y3, .int .i64 y4, .int .i64 y5, .int .i64 y6, .int .i64 y7] 47))
  obtain ⟨wc, hwc⟩ : ∃ wc, wc = w2.alloc (.cells #[.int .i64 yl, .int .i64 y0, .int .i64 y1, .int .i64 y2, .int .i64 y3, .int .i64 y4, .int .i64 y5, .int .i64 y6, .int .i64 y7] 47) := ⟨_, rfl⟩
  have L1 : w1.heap.size < wc.heap.size := by have := (Array.getElem?_eq_some_iff.1 Z2.out).1; rw [hwc]; simp; omega
  have L2 : w2.heap.size < wc.heap.size := by rw [hwc]; simp
  rw [← hwc] at HB3 Z3 Y3
  obtain ⟨G1, hG1⟩ : ∃ G, G = w1.heap.size := ⟨_, rfl⟩
  obtain ⟨G2, hG2⟩ : ∃ G, G = w2.heap.size := ⟨_, rfl⟩
  rw [← hG1] at Z3 L1
  rw [← hG2] at Y3 L2
  clear Z1 Z2 HB1 HB2
  have KC : Hid (∀ V, Below wc.heap.size wc V → V.cell? ⟨G1, 0, none⟩ = some (.int .i64 zl) ∧ V.cell? ⟨G1, 1, none⟩ = some (.int .i64 z0) ∧ V.cell? ⟨G1, 2, none⟩ = some (.int .i64 z1) ∧ V.cell? ⟨G1, 3, none⟩ = some (.int .i64 z2) ∧ V.cell? ⟨G1, 4, none⟩ = some (.int .i64 z3) ∧ V.cell? ⟨G1, 5, none⟩ = some (.int .i64 z4) ∧ V.cell? ⟨G1, 6, none⟩ = some (.int .i64 z5) ∧ V.cell? ⟨G1, 7, none⟩ = some (.int .i64 z6) ∧ V.cell? ⟨G1, 8, none⟩ = some (.int .i64 z7) ∧ V.cell? ⟨G2, 0, none⟩ = some (.int .i64 yl) ∧ V.cell? ⟨G2, 1, none⟩ = some (.int .i64 y0) ∧ V.cell? ⟨G2, 2, none⟩ = some (.int .i64 y1) ∧ V.cell? ⟨G2, 3, none⟩ = some (.int .i64 y2) ∧ V.cell? ⟨G2, 4, none⟩ = some (.int .i64 y3) ∧ V.cell? ⟨G2, 5, none⟩ = some (.int .i64 y4) ∧ V.cell? ⟨G2, 6, none⟩ = some (.int .i64 y5) ∧ V.cell? ⟨G2, 7, none⟩ = some (.int .i64 y6) ∧ V.cell? ⟨G2, 8, none⟩ = some (.int .i64 y7)) := Lib.hid (fun V h => by
    obtain ⟨p0, p1, p2, p3, p4, p5, p6, p7, p8⟩ := nine_cells ((h.block _ L1).trans Z3.out)
    obtain ⟨q0, q1, q2, q3, q4, q5, q6, q7, q8⟩ := nine_cells ((h.block _ L2).trans Y3.out)
    exact ⟨p0, p1, p2, p3, p4, p5, p6, p7, p8, q0, q1, q2, q3, q4, q5, q6, q7, q8⟩)
  clear Z3 Y3 L1 L2
  go_upto_region 5 with fail
  rw [← hwc, ← hG1, ← hG2]
  clear hwc hG1 hG2 WC SC
  have HD : Below wc.heap.size wc wc := Below.refl _ _
  have KN : Hid (∀ (V V' : World), Below wc.heap.size wc V → Below V.heap.size V V' → Below wc.heap.size wc V') := Lib.hid (fun V V' h b => bl_then h b)
  obtain ⟨p0, p1, p2, p3, p4, p5, p6, p7, p8, q0, q1, q2, q3, q4, q5, q6, q7, q8⟩ := KC.out _ HD
  go_region_held3 (fun w' => w'.cell? ⟨G1, 0, none⟩ = some (.int .i64 zl) ∧ w'.cell? ⟨G1, 1, none⟩ = some (.int .i64 z0) ∧ w'.cell? ⟨G1, 2, none⟩ = some (.int .i64 z1) ∧ w'.cell? ⟨G1, 3, none⟩ = some (.int .i64 z2) ∧ w'.cell? ⟨G1, 4, none⟩ = some (.int .i64 z3) ∧ w'.cell? ⟨G1, 5, none⟩ = some (.int .i64 z4) ∧ w'.cell? ⟨G1, 6, none⟩ = some (.int .i64 z5) ∧ w'.cell? ⟨G1, 7, none⟩ = some (.int .i64 z6) ∧ w'.cell? ⟨G1, 8, none⟩ = some (.int .i64 z7) ∧ w'.cell? ⟨G2, 0, none⟩ = some (.int .i64 yl) ∧ w'.cell? ⟨G2, 1, none⟩ = some (.int .i64 y0) ∧ w'.cell? ⟨G2, 2, none⟩ = some (.int .i64 y1) ∧ w'.cell? ⟨G2, 3, none⟩ = some (.int .i64 y2) ∧ w'.cell? ⟨G2, 4, none⟩ = some (.int .i64 y3) ∧ w'.cell? ⟨G2, 5, none⟩ = some (.int .i64 y4) ∧ w'.cell? ⟨G2, 6, none⟩ = some (.int .i64 y5) ∧ w'.cell? ⟨G2, 7, none⟩ = some (.int .i64 y6) ∧ w'.cell? ⟨G2, 8, none⟩ = some (.int .i64 y7))
    (first | exact ⟨p0, p1, p2, p3, p4, p5, p6, p7, p8, q0, q1, q2, q3, q4, q5, q6, q7, q8⟩ | exact KC.out _ HD | exact KC.out _ (by assumption) | go_keep)
    (first
      | (go_at_call 54; (with_reducible refine (UC.out _).mono ?_); rintro e v1 ⟨rfl, b1⟩; (first | (have b1 := un_drewO b1) | skip); (have D1 := KN.out _ _ (by first | exact HD | assumption) b1); clear b1)
      | (go_at_call 55; (with_reducible refine (WN.out _).mono ?_); rintro e v2 ⟨rfl, b2⟩; (first | (have b2 := un_drewO b2) | skip); (have D2 := KN.out _ _ (by first | assumption | exact HD) b2); clear b2))
  all_goals
    have HB5 := Lib.hid (HB3.out.trans (D2.mono HB3.out.size))
    clear KC KN p0 p1 p2 p3 p4 p5 p6 p7 p8 q0 q1 q2 q3 q4 q5 q6 q7 q8
    go_wp2_with fail
    go_ret2
    exact ⟨rfl, HB5.out⟩
end Go.Proofs.Ytligidmkhbcpmaa
