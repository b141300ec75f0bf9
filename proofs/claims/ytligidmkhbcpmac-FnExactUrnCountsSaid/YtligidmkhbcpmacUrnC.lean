/- The chance of draws, in the program. -/
import Derived.Test.YtligidmkhbcpmacUrnQ
import Derived.Test.YtligidmkhbcpmacUrnI
namespace Go.Proofs.Ytligidmkhbcpmac
open Go.RowKit
set_option linter.unusedVariables false
theorem ub_setup (w : World) (r b x : Int) : ∃ wb, wb = (w.alloc (.cells #[.int .i64 r, .int .i64 b, .int .i64 x] 121)).alloc (.cells #[.int .i64 0, .int .i64 0] 26) ∧ UBox wb w.heap.size r b x ∧ QBox wb (w.heap.size + 1) 0 0 ∧ Below w.heap.size w wb ∧ wb.heap.size = w.heap.size + 2 := by
  refine ⟨_, rfl, ?_, ?_, ?_, by simp⟩
  · exact (UBox.new w r b x).next ((Below.refl _ _).alloc (Nat.le_refl _) _)
  · have := QBox.new (w.alloc (.cells #[.int .i64 r, .int .i64 b, .int .i64 x] 121)) 0 0
    simpa using this
  · exact ((Below.refl w.heap.size w).alloc (Nat.le_refl _) _).alloc (by simp) _
theorem un_drewB {a b : World} (h : Below a.drew.heap.size a.drew b) : Below a.heap.size a b := ⟨h.os, h.tape, h.output, h.size, h.block⟩
set_option maxRecDepth 100000 in
set_option maxHeartbeats 8000000 in
theorem chanceC (r b x W : Int) (p q : Nat) (w : World) (hW : 1 ≤ W ∧ W ≤ 252) (hWc : W ≤ (chN (p + q) p : Nat)) (hr : 0 ≤ r ∧ r ≤ 20) (hb : 0 ≤ b ∧ b ≤ 20) (hx : 0 ≤ x ∧ x ≤ 20) (hp : 0 < r + b) (hn : p + q ≤ 10) :
    Calls Try.prog 138 #[.agg #[.int .i64 r, .int .i64 b, .int .i64 x], .int .i64 W, .int .i64 p, .int .i64 q] w (Gives (chV (tpL W r b x p q) (grF (r + b) x) (p + q)) w) := by
  have OK := Lib.hid (ch_ok hW hWc hr hb hx hp hn)
  have G1 := Lib.hid (fun w => growthC r b x r p w (by omega) hx (by omega))
  have G2 := Lib.hid (fun w => growthC r b x b q w (by omega) hx (by omega))
  have G3 := Lib.hid (fun w => growthC r b x (r + b) (p + q) w (by omega) hx hn)
  have TL := Lib.hid (show (tpL W r b x p q).length = 1 + (p + q) by rw [tpL_len]; omega)
  have T6 := Lib.hid (tp_mem hW hr hb hx hn)
  have CT : Hid (∀ (V : World) (m gw g1 c1 g2 c2 : Nat), m = V.heap.size → RowB V gw [W] → RowB V g1 (preL (grF r x) p) → RowB V g2 (preL (grF b x) q) →
      Calls Try.prog 181 #[.slice (some ⟨m, 0, none⟩) 3 3] (V.alloc (.cells #[.slice (some ⟨gw, 0, none⟩) 1 1, .slice (some ⟨g1, 0, none⟩) (preL (grF r x) p).length c1, .slice (some ⟨g2, 0, none⟩) (preL (grF b x) q).length c2] 22))
        (NewB (tpL W r b x p q) (V.alloc (.cells #[.slice (some ⟨gw, 0, none⟩) 1 1, .slice (some ⟨g1, 0, none⟩) (preL (grF r x) p).length c1, .slice (some ⟨g2, 0, none⟩) (preL (grF b x) q).length c2] 22)))) := Lib.hid (by
    intro V m gw g1 c1 g2 c2 hm h0 h1 h2
    subst hm
    have k := alloc_heap V (.cells #[.slice (some ⟨gw, 0, none⟩) 1 1, .slice (some ⟨g1, 0, none⟩) (preL (grF r x) p).length c1, .slice (some ⟨g2, 0, none⟩) (preL (grF b x) q).length c2] 22)
    refine catC (tpZ W r b x p q) (fun i => if i = 0 then gw else if i = 1 then g1 else g2) (fun i => if i = 0 then 1 else if i = 1 then c1 else c2) 3 V.heap.size 3 _ (by omega) (by rw [show catL (tpZ W r b x p q) 3 = tpL W r b x p q from rfl, TL.out]; omega) ?_ (by simp) ?_ ?_ ?_
    · intro k hk
      obtain rfl | rfl | rfl | rfl : k = 0 ∨ k = 1 ∨ k = 2 ∨ k = 3 := by omega
      · simp [catL]
      · simp [catL, tpZ]
      · simp [catL, tpZ, pre_len]; omega
      · simp [catL, tpZ, pre_len]; omega
    · intro i hi
      obtain rfl | rfl | rfl : i = 0 ∨ i = 1 ∨ i = 2 := by omega
      · exact (cell_of_heap (o := 0) k rfl).1
      · exact (cell_of_heap (o := 1) k rfl).1
      · exact (cell_of_heap (o := 2) k rfl).1
    · intro i hi
      obtain rfl | rfl | rfl : i = 0 ∨ i = 1 ∨ i = 2 := by omega
      · exact h0.al _
      · exact h1.al _
      · exact h2.al _
    · intro i hi z hz
      have hz2 : z ∈ tpL W r b x p q := by
        rw [tpL_eq]
        obtain rfl | rfl | rfl : i = 0 ∨ i = 1 ∨ i = 2 := by omega
        · have : z ∈ [W] := hz
          simp at this; subst this; exact List.mem_cons_self ..
        · exact List.mem_cons_of_mem _ (List.mem_append_left _ hz)
        · exact List.mem_cons_of_mem _ (List.mem_append_right _ hz)
      have := T6.out z hz2
      unfold InI64; omega)
  have FL := Lib.hid (pre_len (grF (r + b) x) (p + q))
  have FA := Lib.hid (fun k (hk : k < p + q) => pre_at (f := grF (r + b) x) hk)
  generalize tpL W r b x p q = T at *
  generalize preL (grF r x) p = L1 at *
  generalize preL (grF b x) q = L2 at *
  generalize preL (grF (r + b) x) (p + q) = L3 at *
  generalize grF (r + b) x = F at *
  obtain ⟨n, hn0⟩ : ∃ n, n = p + q := ⟨_, rfl⟩
  rw [← hn0] at OK G3 TL FL FA ⊢
  have sNI : (p : Int) + (q : Int) = (n : Int) := by omega
  obtain ⟨wb, hwb, HU0, HQ0, HB0, SZ0⟩ := ub_setup w r b x
  have HU := Lib.hid HU0
  have HQ := Lib.hid HQ0
  have HB := Lib.hid HB0
  have HD : Below wb.heap.size wb wb := Below.refl _ _
  have KA : Hid (∀ (V : World) (o : Obj), Below wb.heap.size wb V → Below wb.heap.size wb (V.alloc o)) := Lib.hid (fun V o h => h.alloc h.size o)
  have KN : Hid (∀ (V V' : World), Below wb.heap.size wb V → Below V.heap.size V V' → Below wb.heap.size wb V') := Lib.hid (fun V V' h b => bl_then h b)
  have KC : Hid (∀ V, Below wb.heap.size wb V → V.cell? ⟨w.heap.size, 0, none⟩ = some (.int .i64 r) ∧ V.cell? ⟨w.heap.size, 1, none⟩ = some (.int .i64 b) ∧ V.cell? ⟨w.heap.size, 2, none⟩ = some (.int .i64 x)) := Lib.hid (fun V h => (HU.out.next h).cells)
  obtain ⟨hr1, hr2⟩ := hr
  obtain ⟨hb1, hb2⟩ := hb
  have hn10 : n ≤ 10 := by omega
  obtain ⟨a0, a1, a2⟩ := HU0.cells
  have ln1 : w.heap.size + 2 ≤ wb.heap.size := by omega
  clear HU0 HQ0 HB0 hW hWc hx hn hn0 T6 SZ0
  go_enter Try.func138, Try.ntmps138
  go_upto_region 1 with fail
  rw [← hwb]
  clear hwb
  go_region_held3 (fun w' => w'.cell? ⟨w.heap.size, 0, none⟩ = some (.int .i64 r) ∧ w'.cell? ⟨w.heap.size, 1, none⟩ = some (.int .i64 b) ∧ w'.cell? ⟨w.heap.size, 2, none⟩ = some (.int .i64 x))
    (first | exact ⟨a0, a1, a2⟩ | exact KC.out _ HD | exact KC.out _ (by assumption) | exact KC.out _ (KA.out _ _ (by assumption)) | exact KC.out _ (KA.out _ _ (KA.out _ _ (by assumption))) | go_keep)
    (first
      | (go_at_call 182; (with_reducible refine (G1.out _).mono ?_); rintro e v1 ⟨g1, c1, rfl, l1, R1, b1⟩; (first | (have b1 := un_drewB b1) | skip); (have D1 := KN.out _ _ (by first | exact HD | assumption | exact KA.out _ _ (by assumption)) b1); (first | (have Z1 := RowB.next (RowB.one _ W) b1) | skip); clear b1)
      | (go_at_call 182; (with_reducible refine (G2.out _).mono ?_); rintro e v2 ⟨g2, c2, rfl, l2, R2, b2⟩; (first | (have b2 := un_drewB b2) | skip); (have D2 := KN.out _ _ (by first | assumption | exact KA.out _ _ (by assumption)) b2); (first | (have R1b := RowB.next R1 b2) | (have R1b := RowB.next (RowB.al R1 _) b2)); (first | (have Z2 := RowB.next Z1 b2) | (have Z2 := RowB.next (RowB.one _ W) b2) | skip); clear b2)
      | (go_at_call 181; (first | (with_reducible refine (CT.out _ _ _ _ _ _ _ rfl Z2 R1b R2).mono ?_) | (refine (CT.out _ _ _ _ _ _ _ (by simp) (RowB.one _ W) (RowB.al R1b _) (RowB.al R2 _)).mono ?_)); rintro e v9 ⟨gT, cT, rfl, lT, RT, b9⟩; (first | (have D9 := KN.out _ _ (KA.out _ _ D2) b9) | (have D9 := KN.out _ _ (KA.out _ _ (KA.out _ _ D2)) b9)); (have gT1 : wb.heap.size ≤ gT := by (have := D2.size; simp at lT; omega)); clear b9 lT))
  all_goals
    have HU9 := Lib.hid (HU.out.next D9)
    have HQ9 := Lib.hid (HQ.out.below D9 HQ.out.lt)
    have HB9 := Lib.hid (HB.out.trans (D9.mono HB.out.size))
    have HRT := Lib.hid RT
    clear D9 RT D1 D2 R1 R1b R2 KA KN KC CT G1 G2 HU HQ HB HD
    obtain ⟨m, hm⟩ : ∃ m, m = T.length := ⟨_, rfl⟩
    have HMM := Lib.hid hm
    have hm11 : m ≤ 11 := by rw [hm, TL.out]; omega
    rw [← hm]
    clear hm
    obtain ⟨u0, u1, u2⟩ := HU9.out.cells
    have sz9 := HB9.out.size
    go_wp2_with fail
    refine (G3.out _).mono ?_
    rintro e v3 ⟨gF, cF, rfl, l3, R3, b3⟩
    have HQ3 := Lib.hid (HQ9.out.below b3 HQ9.out.lt)
    have HB3 := Lib.hid (HB9.out.trans (b3.mono HB9.out.size))
    have HT3 := Lib.hid (HRT.out.next b3)
    have HR3 := Lib.hid R3
    have ltT := HRT.out.lt
    have gFT : gT < gF := by omega
    clear b3 R3 l3 HU9 HQ9 HB9 HRT u0 u1 u2 G3 sz9 ltT
    have f1 : L3.length ≤ n := by rw [FL.out]; exact Nat.le_refl _
    have f2 : n ≤ L3.length := by rw [FL.out]; exact Nat.le_refl _
    have UO := Lib.hid (fun k => (ur_ok OK.out.nn OK.out.fp k).nn)
    have UL := Lib.hid (fun k j => Int.le_trans (ur_le OK.out.nn OK.out.fp k j) (OK.out.le j))
    have FP := Lib.hid OK.out.fp
    have FM := Lib.hid OK.out.fl
    have EA := Lib.hid (fun k (hk : k ≤ n) (hb : 1000000 < (urK T F k).2) => ch_early OK.out hk hb)
    have LA := Lib.hid (fun (hb : (urK T F n).2 ≤ 1000000) => ch_last OK.out hb)
    have US := Lib.hid (fun k => show (urK T F (k + 1)).1 = (cutK (urK T F k).1 (F k) T.length).1 ∧ (urK T F (k + 1)).2 = (urK T F k).2 * (cutK (urK T F k).1 (F k) T.length).2 from ⟨rfl, rfl⟩)
    have U0 := Lib.hid (show (urK T F 0).1 = T ∧ (urK T F 0).2 = 1 from ⟨rfl, rfl⟩)
    have UN := Lib.hid (fun k => (ur_ok OK.out.nn OK.out.fp k).len)
    have UP := Lib.hid (fun k => (ur_ok OK.out.nn OK.out.fp k).pos)
    obtain ⟨A, hA⟩ : ∃ A : Nat → List Int × Int, A = urK T F := ⟨_, rfl⟩
    rw [← hA] at UO UL EA LA US U0 UN UP
    clear OK
    have HT4 : Hid (RowB v3 gT (A 0).1) := Lib.hid (by rw [U0.out.1]; exact HT3.out)
    clear HT3
    go_wp2_with fail
    go_loopg [11, 42] n (fun gg s t wr => ∃ k : Nat, k ≤ n ∧ n - k ≤ gg ∧ s = .int .i64 (A k).2 ∧ t = .int .i64 k ∧ Hid ((A k).2 ≤ 1000000) ∧ Hid (RowB wr gT (A k).1) ∧ Hid (RowB wr gF L3) ∧ Hid (QBox wr (w.heap.size + 1) 0 0) ∧ Hid (Below w.heap.size w wr))
    case atStart => exact ⟨0, Nat.zero_le _, by omega, by rw [U0.out.2], rfl, Lib.hid (by rw [U0.out.2]; decide), HT4, HR3, HQ3, HB3⟩
    case round =>
      clear HT4 HR3 HQ3 HB3
      obtain ⟨k, hk, hgg, rfl, rfl, HM, HT, HR, HQ, HB⟩ := hrel
      have sz := HB.out.size
      by_cases hlt : k < n
      · have k1 : (k : Int) < (L3.length : Int) := by omega
        have k2 : 0 ≤ (k : Int) := by omega
        have x0 := HR.out.cell k (by omega)
        rw [FA.out k hlt] at x0
        have fp := FP.out k
        have fm := FM.out k hlt
        have us := US.out k
        have CO := Lib.hid (fun i (hi : i ≤ T.length) => cut_ok (ts := (A k).1) (f := F k) (UO.out k) (FP.out k) i (by rw [UN.out k]; exact hi))
        have CL := Lib.hid (fun i (hi : i ≤ T.length) j => Int.le_trans (cut_le (ts := (A k).1) (f := F k) (UO.out k) (FP.out k) i (by rw [UN.out k]; exact hi) j) (UL.out k j))
        have CN := Lib.hid (fun i (hi : i ≤ T.length) => show (cutK (A k).1 (F k) i).1.length = T.length by rw [(CO.out i hi).len]; exact UN.out k)
        have CS := Lib.hid (fun i => show (cutK (A k).1 (F k) (i + 1)).1 = (cutK (A k).1 (F k) i).1.set i ((cutK (A k).1 (F k) i).1.getD i 0 / gI ((cutK (A k).1 (F k) i).1.getD i 0) (cutK (A k).1 (F k) i).2) ∧ (cutK (A k).1 (F k) (i + 1)).2 = (cutK (A k).1 (F k) i).2 / gI ((cutK (A k).1 (F k) i).1.getD i 0) (cutK (A k).1 (F k) i).2 from ⟨rfl, rfl⟩)
        have CB := Lib.hid (fun i (hi : i ≤ T.length) => show 1 ≤ (cutK (A k).1 (F k) i).2 ∧ (cutK (A k).1 (F k) i).2 ≤ 300 from ⟨(CO.out i hi).pos, by have := Int.le_of_dvd (by omega) (CO.out i hi).dvf; omega⟩)
        have CQ := Lib.hid (fun i (hi : i ≤ T.length) j => show 0 ≤ (cutK (A k).1 (F k) i).1.getD j 0 ∧ (cutK (A k).1 (F k) i).1.getD j 0 ≤ 300 from ⟨(CO.out i hi).nn j, CL.out i hi j⟩)
        have C0 := Lib.hid (show (cutK (A k).1 (F k) 0).1 = (A k).1 ∧ (cutK (A k).1 (F k) 0).2 = F k from ⟨rfl, rfl⟩)
        obtain ⟨C, hC⟩ : ∃ C : Nat → List Int × Int, C = cutK (A k).1 (F k) := ⟨_, rfl⟩
        rw [← hC] at us CN CS CB CQ C0
        have USH := Lib.hid us
        obtain ⟨fk, hfk⟩ : ∃ fk, fk = F k := ⟨_, rfl⟩
        rw [← hfk] at x0 C0
        have HT2 : Hid (RowB wr gT (C 0).1) := Lib.hid (by rw [C0.out.1]; exact HT.out)
        have C0b := Lib.hid C0.out.2
        have bk := UP.out k
        have HMK := HM.out
        obtain ⟨bt, hbt⟩ : ∃ bt, bt = (A k).2 := ⟨_, rfl⟩
        rw [← hbt] at bk HMK ⊢
        have HBT := Lib.hid hbt
        rw [← HMM.out] at CN CB CQ
        clear us CO CL hC hfk HT C0 fp fm HM hbt
        go_wp2_with fail
        go_loopg [13, 48] m (fun gg s t wr => ∃ i : Nat, i ≤ m ∧ m - i ≤ gg ∧ s = .int .i64 (C i).2 ∧ t = .int .i64 i ∧ Hid (RowB wr gT (C i).1) ∧ Hid (RowB wr gF L3) ∧ Hid (QBox wr (w.heap.size + 1) 0 0) ∧ Hid (Below w.heap.size w wr))
        case atStart => exact ⟨0, Nat.zero_le _, by omega, by rw [C0b.out], rfl, HT2, HR, HQ, HB⟩
        case round =>
          clear HT2 HR HQ HB
          obtain ⟨i, hi, hgg2, rfl, rfl, HT, HR, HQ, HB⟩ := hrel
          by_cases him : i < m
          · have i1 : (i : Int) < (m : Int) := by omega
            have i2 : 0 ≤ (i : Int) := by omega
            have y0 := HT.out.cell i (by rw [CN.out i (by omega)]; exact him)
            have y1 := HT.out.thaw i (by rw [CN.out i (by omega)]; exact him)
            have cb := CB.out i (by omega)
            have cq := CQ.out i (by omega) i
            have cs := CS.out i
            have GC := Lib.hid (fun w => gcdI ((C i).1.getD i 0) (C i).2 w (by omega) (by omega))
            obtain ⟨t, ht⟩ : ∃ t, t = (C i).1.getD i 0 := ⟨_, rfl⟩
            obtain ⟨f, hf⟩ : ∃ f, f = (C i).2 := ⟨_, rfl⟩
            rw [← ht] at y0 cq cs GC
            rw [← hf] at cb cs GC ⊢
            have gp := gI_pos (a := t) (b := f) (by omega)
            have gl : gI t f ≤ f := Int.le_of_dvd (by omega) (gI_dvd_r t f)
            obtain ⟨g, hg⟩ : ∃ g, g = gI t f := ⟨_, rfl⟩
            rw [← hg] at gp gl cs GC
            have TQ : Int.tdiv t g = t / g := Int.tdiv_eq_ediv_of_nonneg cq.1
            have FQ : Int.tdiv f g = f / g := Int.tdiv_eq_ediv_of_nonneg (by omega)
            have tq1 : 0 ≤ t / g := Int.ediv_nonneg cq.1 (by omega)
            have tq2 : t / g ≤ t := Int.ediv_le_self _ cq.1
            have fq1 : 0 ≤ f / g := Int.ediv_nonneg (by omega) (by omega)
            have fq2 : f / g ≤ f := Int.ediv_le_self _ (by omega)
            obtain ⟨tq, htq⟩ : ∃ tq, tq = t / g := ⟨_, rfl⟩
            obtain ⟨fq, hfq⟩ : ∃ fq, fq = f / g := ⟨_, rfl⟩
            rw [← htq] at TQ tq1 tq2 cs
            rw [← hfq] at FQ fq1 fq2 cs
            have T5 : Hid (RowB (wr.setCell ⟨gT, i, none⟩ (.int .i64 tq)) gT (C (i + 1)).1) := Lib.hid (by rw [cs.1]; exact HT.out.set (by rw [CN.out i (by omega)]; exact him))
            have R5 := Lib.hid (HR.out.far (g := gT) (o := i) (v := .int .i64 tq) (by omega))
            have Q5 := Lib.hid (HQ.out.far (g := gT) (o := i) (x := .int .i64 tq) (by omega))
            have B5 := Lib.hid (HB.out.setCell (p := ⟨gT, i, none⟩) (by show w.heap.size ≤ gT; omega) (.int .i64 tq))
            have FE := Lib.hid (show fq = (C (i + 1)).2 by rw [cs.2])
            have ng : ¬ g = 0 := by omega
            clear HT HR HQ HB cs ht hf hg htq hfq
            go_wp2_with fail
            refine (GC.out _).mono ?_
            rintro e w5 ⟨rfl, rfl⟩
            go_wp2_with fail
            go_roundg (m - (i + 1))
            case rel => exact ⟨i + 1, by omega, by omega, by rw [FE.out], by go_num, T5, R5, Q5, B5⟩
            case measure => omega
          · have him2 : i = m := by omega
            have i1 : ¬ (i : Int) < (m : Int) := by omega
            have cb := CB.out i (by omega)
            have T5 : Hid (RowB wr gT (A (k + 1)).1) := Lib.hid (by rw [USH.out.1, ← HMM.out, ← him2]; exact HT.out)
            have b5 : bt * (C i).2 = (A (k + 1)).2 := by rw [USH.out.2, ← HMM.out, ← him2, HBT.out]
            obtain ⟨f, hf⟩ : ∃ f, f = (C i).2 := ⟨_, rfl⟩
            rw [← hf] at cb b5 ⊢
            have m1 : bt * f ≤ 1000000 * 300 := Int.mul_le_mul HMK cb.2 (by omega) (by omega)
            have m2 : 0 ≤ bt * f := Int.mul_nonneg (by omega) (by omega)
            obtain ⟨z, hz⟩ : ∃ z, z = bt * f := ⟨_, rfl⟩
            rw [← hz] at m1 m2 b5
            have W1 : IntKind.i64.wrap (bt * f) = z := by rw [← hz]; exact IntWalk.i64_in _ (by omega)
            have B5H := Lib.hid b5
            have B5S := Lib.hid b5.symm
            obtain ⟨⟨c0, c1⟩, d0, d1⟩ := HQ.out.cells
            by_cases hbig : z ≤ 1000000
            · have z1 : ¬ (1000000 : Int) < z := by omega
              have HM5 : Hid ((A (k + 1)).2 ≤ 1000000) := Lib.hid (by rw [B5S.out]; exact hbig)
              clear HT b5 hf hz him2
              go_wp2_with fail
              go_roundg (n - (k + 1))
              case rel => exact ⟨k + 1, by omega, by omega, by rw [B5H.out], by go_num, HM5, T5, HR, HQ, HB⟩
              case measure => omega
            · have z1 : (1000000 : Int) < z := by omega
              have EE := Lib.hid (EA.out (k + 1) hlt (by rw [B5S.out]; exact z1))
              rw [EE.out]
              clear HT b5 hf hz him2 T5
              go_wp2_with fail
              refine bodyPost_ret (v := .tuple #[.agg #[.int .i64 0, .int .i64 0], .bool false]) (by simp [results, Try.results138, go_sem, c0, c1]) rfl ⟨by first | rfl | (rw [EE.out]), ?_⟩
              first | exact HB.out | exact bl_st HB.out (by omega) _ _
      · have hkn : k = n := by omega
        have k1 : ¬ (k : Int) < (L3.length : Int) := by omega
        have HMK := HM.out
        rw [hkn] at HMK
        obtain ⟨e1, e2, e3⟩ := LA.out HMK
        have PC := Lib.hid (fun (w : World) (h : RowB w gT (A k).1) => prodC (A k).1 gT cT w h (by rw [UN.out k, TL.out]; omega))
        rw [UN.out k, ← HMM.out, hkn, show IntKind.i64.wrap (prodI (A n).1) = prodI (A n).1 from IntWalk.i64_in _ (by omega)] at PC
        have PC2 := Lib.hid (PC.out wr (by have h := HT.out; rw [hkn] at h; exact h))
        have BE := Lib.hid (show (A k).2 = (A n).2 by rw [hkn])
        have E1 := Lib.hid e1
        rw [BE.out]
        obtain ⟨P, hP⟩ : ∃ P, P = prodI (A n).1 := ⟨_, rfl⟩
        obtain ⟨Bn, hBn⟩ : ∃ Bn, Bn = (A n).2 := ⟨_, rfl⟩
        rw [← hP] at PC2 E1
        rw [← hBn] at E1 ⊢
        obtain ⟨⟨c0, c1⟩, d0, d1⟩ := HQ.out.cells
        clear hkn e1 e2 e3 HMK PC hP hBn HT HR HM
        go_wp2_with fail
        refine PC2.out.mono ?_
        rintro e w5 ⟨rfl, rfl⟩
        go_wp2_with fail
        refine bodyPost_ret (v := .tuple #[.agg #[.int .i64 P, .int .i64 Bn], .bool true]) (by simp [results, Try.results138, go_sem, c0, c1]) rfl ⟨by rw [E1.out], ?_⟩
        exact bl_st HB.out (by omega) _ _
end Go.Proofs.Ytligidmkhbcpmac
