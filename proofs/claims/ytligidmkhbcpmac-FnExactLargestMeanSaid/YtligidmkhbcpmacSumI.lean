/- Sums that go up a tree, in the program. -/
import Derived.Test.YtligidmkhbcpmacDepthI
import Derived.Test.YtligidmkhbcpmacSumP
import Derived.RegionTactic
import Derived.ChangeAlike
namespace Go.Proofs.Ytligidmkhbcpmac
open Go.RowKit
set_option linter.unusedVariables false
/-- What is asked of a part that is handed over: at each end it answers the end's number. -/
def PartI (g : Nat) (lb : Array Value) (ps vals : List Int) (w : World) : Prop :=
  ∀ (W : World) (x : Nat), x < ps.length → leafB ps x = true → Below w.heap.size w W → Calls Try.prog g (#[.int .i64 x] ++ lb) W fun e w' => e = .returned (.int .i64 (vals.getD x 0)) ∧ Below W.heap.size W w'
set_option maxRecDepth 100000 in
set_option maxHeartbeats 8000000 in
theorem sumUpI (ps ws vals : List Int) (v : Value) (g : Nat) (lb : Array Value) (w : World) (eg : ∀ args w, (callFunc g args).run Try.prog w = .ok (.enter g args) w)
    (gd : Good ps ws) (h : TreeV w w.heap.size v ps ws) (hL : vals.length = ps.length) (hz : ∀ y, y < ps.length → leafB ps y = false → vals.getD y 0 = 0) (hbd : absTo vals ps.length ≤ 4000000000000000000) (hpt : PartI g lb ps vals w) :
    Calls Try.prog 178 #[v, .func (.func g) #[] lb] w (NewInts (upL ps vals (ps.length - 1)) w) := by
  have ISE := Lib.hid (fun w' x (hx : x < ps.length) (hb : Below w.heap.size w w') => isEndI ps ws v x w' (by rw [gd.nw]; exact hx) (h.boxed hb))
  obtain ⟨v1, v2, rfl, ⟨p1, c1, rfl, l1, m1, _, i1⟩, ⟨p2, c2, rfl, l2, m2, _, i2⟩⟩ := h
  have P1 := Lib.hid i1
  clear i1 i2
  have PP := Lib.hid hpt
  clear hpt
  have hp : ParOk ps := gd.par
  have HP := Lib.hid hp
  have GP := Lib.hid gd.par
  have GE := Lib.hid (fun x (hx : x < ps.length) => gd.end_iff hx)
  have HL := Lib.hid hL
  have hn := gd.n24
  have hn1 := gd.n1
  have VB := Lib.hid (fun y (hy : y < ps.length) => abs_le_absTo vals hy)
  have UA := Lib.hid (fun m hm => (upL_abs hp hL m hm).2)
  have Z0 := Lib.hid (upI_zero hz)
  clear hL gd hz hp
  have B1 := (Below.refl w.heap.size w).alloc (Nat.le_refl _) (.cells #[.slice p1 ps.length c1, .slice p2 ws.length c2] 29)
  have T1 := Lib.hid (show TBox (w.alloc (.cells #[.slice p1 ps.length c1, .slice p2 ws.length c2] 29)) w.heap.size (.slice p1 ps.length c1) (.slice p2 ws.length c2) from alloc_heap w _)
  have HB1 := Lib.hid B1
  have sz1 : (w.alloc (.cells #[.slice p1 ps.length c1, .slice p2 ws.length c2] 29)).heap.size = w.heap.size + 1 := by simp
  obtain ⟨wa, hwa⟩ : ∃ wa, wa = w.alloc (.cells #[.slice p1 ps.length c1, .slice p2 ws.length c2] 29) := ⟨_, rfl⟩
  rw [← hwa] at T1 HB1 sz1
  clear B1
  obtain ⟨i0, hi, hz0, hz1, hz2⟩ := info_parts intInfo
  have c1' : i0.bytes * ps.length ≤ 281474976710656 := by rw [hz2]; omega
  have c2' : ps.length ≤ maxLen := by unfold maxLen; omega
  obtain ⟨x0, x1⟩ := T1.out.cells
  go_enter Try.func178, Try.ntmps178
  go_wp2_with (at_make; refine wpList_make_full _ rfl _ _ 22 rfl (w.heap.size + 1) 3 i0 (.int .i64 0) 1 Try.underlying22 hi hz0 hz1 .i64 .i64 _ _ ps.length rfl rfl rfl rfl c1' c2' (by simp) ?_; intro w2 hown hg2)
  rw [← hwa] at hown hg2
  rw [sz1] at hown
  have hown1 : w2.ownsRow (w.heap.size + 1) 3 1 (.slice (some ⟨w.heap.size + 1, 0, none⟩) ps.length ps.length) ps.length (List.replicate ps.length (.int .i64 0)) := by
    have h2 := hown
    rw [show (Value.int .i64 0).cells = #[Value.int .i64 0] from rfl, Nat.mul_one, toList_madeCells_one] at h2
    exact h2
  have O2 := Lib.hid (OwnV.made hown1)
  rw [← Z0.out] at O2
  have B2 := Lib.hid (HB1.out.grown hg2 HB1.out.size (fun q hq => by simp at hq))
  have T2 := Lib.hid (T1.out.grown hg2 (lo := w.heap.size + 1) (fun q hq => by simp at hq) (by omega))
  clear hown hown1 hg2 c1' c2' hi hz0 hz1 hz2 x0 x1 hwa HB1 T1 Z0
  go_loopw [6] (fun i wr => ∃ k : Nat, k ≤ ps.length ∧ i = .int .i64 ((k : Int) - 1) ∧ Hid (OwnV wr (w.heap.size + 1) wr.heap.size (.slice (some ⟨w.heap.size + 1, 0, none⟩) ps.length ps.length) (upI ps vals (ps.length - k))) ∧ Hid (TBox wr w.heap.size (.slice p1 ps.length c1) (.slice p2 ws.length c2)) ∧ Hid (Below w.heap.size w wr)) (fun i _ => (intOf i + 1).toNat)
  case atStart => exact ⟨ps.length, Nat.le_refl _, rfl, Lib.hid (by rw [Nat.sub_self]; exact O2.out), T2, B2⟩
  case round =>
    obtain ⟨k, hk, rfl, HO, HT, HB⟩ := hrel
    obtain ⟨x0, x1⟩ := HT.out.cells
    clear T2 B2 O2
    rcases Nat.eq_zero_or_pos k with hk0 | hk0
    · subst hk0
      have FIN : Hid (NewInts (upL ps vals (ps.length - 1)) w (.returned (.slice (some ⟨w.heap.size + 1, 0, none⟩) ps.length ps.length)) wr) := Lib.hid ⟨_, rfl, by
        have hh := HO.out.low (lo' := w.heap.size) (by omega)
        rwa [show ps.length - 0 = ps.length by omega, upI_all ps vals HL.out, upL_last ps vals hn1] at hh, HB.out⟩
      clear HO
      go_wp2
      go_ret
      exact FIN.out
    · obtain ⟨x, rfl⟩ : ∃ x, k = x + 1 := ⟨k - 1, by omega⟩
      rw [show (((x + 1 : Nat) : Int) - 1) = (x : Int) by omega]
      have hlt : x < ps.length := by omega
      obtain ⟨m, hm⟩ : ∃ m, m = ps.length - (x + 1) := ⟨_, rfl⟩
      rw [← hm] at HO
      have hmx : ps.length - m = x + 1 := by omega
      have hm1 : m + 1 = ps.length - x := by omega
      have hmn : m + 1 ≤ ps.length := by omega
      have hp := HP.out
      have HM := Lib.hid hm
      have HMX := Lib.hid hmx
      have HM1 := Lib.hid hm1
      obtain ⟨b, off, rfl, hb, hc⟩ := P1.out.get hlt
      have C := Lib.hid (fun w' (hb : Below w.heap.size w w') => ISE.out w' x hlt hb)
      have i0 : (0 : Int) ≤ (x : Int) := by omega
      have i1 : (x : Int) < (ps.length : Int) := by omega
      have UB : Hid (∀ j, j < ps.length → m + 1 < ps.length → -4000000000000000000 ≤ (upI ps vals (m + 1)).getD j 0 ∧ (upI ps vals (m + 1)).getD j 0 ≤ 4000000000000000000) := Lib.hid (fun j hj h1 => by
        have := UA.out (m + 1) (by omega) j hj
        rw [upI_at ps vals (m + 1) hj]
        split <;> omega)
      have EI := Lib.hid (GE.out x hlt)
      obtain ⟨va, hva⟩ : ∃ va, va = vals.getD x 0 := ⟨_, rfl⟩
      have VA : Hid (InI64 va) := Lib.hid (by have := VB.out x hlt; rw [hva]; unfold InI64; omega)
      have HVA := Lib.hid hva
      have HC := Lib.hid hc
      clear hm hmx hm1 hva hc hp
      go_wp2_with fail
      refine (C.out _ HB.out).mono ?_
      rintro e w1 ⟨rfl, b1⟩
      have HO1 := Lib.hid ((HO.out.below b1).wide b1.size (Nat.le_refl _))
      have HT1 := Lib.hid (HT.out.below b1 HT.out.lt)
      have HB1 := Lib.hid (HB.out.trans (b1.mono HB.out.size))
      clear b1 HO HT HB x0 x1 C
      obtain ⟨x0, x1⟩ := HT1.out.cells
      cases hl : leafB ps x
      · have e0 : decide (0 < ws.getD x 0) = false := by
          rw [decide_eq_false_iff_not, EI.out, hl]; decide
        rw [e0]
        clear e0 EI
        by_cases hx0 : x = 0
        · have OM := HO1
          have TM := HT1
          have BM := HB1
          obtain ⟨W2, hW2⟩ : ∃ W2, W2 = w1 := ⟨_, rfl⟩
          have ML : Hid ((upI ps vals m).length = ps.length) := Lib.hid (upI_len _ _ _)
          have MX : Hid ((upI ps vals m).getD x 0 = (upL ps vals m).getD x 0) := Lib.hid (upI_inner m hlt hl)
          obtain ⟨MM, hMM⟩ : ∃ MM, MM = upI ps vals m := ⟨_, rfl⟩
          have MO : Hid (∀ y, y < ps.length → y ≠ x → MM.getD y 0 = (upI ps vals m).getD y 0) := Lib.hid (by rw [hMM]; exact fun _ _ _ => rfl)
          rw [← hMM] at OM ML MX
          clear hMM
          subst hW2
          have x0' : ¬ (0 : Int) < (x : Int) := by omega
          have HX0 := Lib.hid hx0
          clear hx0
          go_wp2_with fail
          have OE := Lib.hid (upI_end HL.out hn1 ML.out (by have h := MX.out; rw [HX0.out, (show m = ps.length - 1 by have := HM.out; have := HX0.out; omega)] at h; exact h) (fun y h1 h2 => by have h := MO.out y h1 (by have := HX0.out; omega); rw [(show m = ps.length - 1 by have := HM.out; have := HX0.out; omega)] at h; exact h))
          go_roundw
          case rel => exact ⟨0, by omega, by have := HX0.out; subst this; simp, Lib.hid (by rw [show ps.length - 0 = ps.length by omega, upI_all ps vals HL.out, upL_last ps vals hn1, ← OE.out]; exact OM.out), TM, BM⟩
          case measure => simp [intOf]
        · have OM := HO1
          have TM := HT1
          have BM := HB1
          obtain ⟨W2, hW2⟩ : ∃ W2, W2 = w1 := ⟨_, rfl⟩
          have ML : Hid ((upI ps vals m).length = ps.length) := Lib.hid (upI_len _ _ _)
          have MX : Hid ((upI ps vals m).getD x 0 = (upL ps vals m).getD x 0) := Lib.hid (upI_inner m hlt hl)
          obtain ⟨MM, hMM⟩ : ∃ MM, MM = upI ps vals m := ⟨_, rfl⟩
          have MO : Hid (∀ y, y < ps.length → y ≠ x → MM.getD y 0 = (upI ps vals m).getD y 0) := Lib.hid (by rw [hMM]; exact fun _ _ _ => rfl)
          rw [← hMM] at OM ML MX
          clear hMM
          subst hW2
          have x0' : (0 : Int) < (x : Int) := by omega
          go_wp2_with fail
          obtain ⟨q1, q2⟩ := GP.out x (by omega) hlt
          obtain ⟨j, hj⟩ : ∃ j : Nat, ps.getD x 0 = (j : Int) := ⟨(ps.getD x 0).toNat, by omega⟩
          have hjx : j < x := by omega
          have hcw : W2.cell? ⟨b, off + x, none⟩ = some (.int .i64 j) := by rw [BM.out.cell (p := ⟨b, off + x, none⟩) hb, HC.out, hj]
          have RD := upI_round HP.out HL.out m HMX.out (by omega) ML.out MX.out MO.out
          rw [hj, show ((j : Int)).toNat = j by omega] at RD
          have hdj := OM.out.cellGet (j := j) (by have := ML.out; omega)
          have hdx := OM.out.cellGet (j := x) (by have := ML.out; omega)
          have hfj := OM.out.frozenGet j
          obtain ⟨y0, y1⟩ := TM.out.cells
          have IN : InI64 (MM.getD j 0 + MM.getD x 0) := by have hh := UB.out j (by omega) (by have := HM1.out; omega); rw [← RD, getD_set_same (by have := ML.out; omega)] at hh; unfold InI64; omega
          have B1 : InI64 (MM.getD j 0) := OM.out.in64 _ (by rw [List.getD_eq_getElem?_getD, List.getElem?_eq_getElem (by have := ML.out; omega)]; exact List.getElem_mem _)
          have B2 : InI64 (MM.getD x 0) := OM.out.in64 _ (by rw [List.getD_eq_getElem?_getD, List.getElem?_eq_getElem (by have := ML.out; omega)]; exact List.getElem_mem _)
          obtain ⟨d1, hd1⟩ : ∃ d, d = MM.getD j 0 := ⟨_, rfl⟩
          obtain ⟨d2, hd2⟩ : ∃ d, d = MM.getD x 0 := ⟨_, rfl⟩
          rw [← hd1] at hdj RD IN B1
          rw [← hd2] at hdx RD IN B2
          have O3 := Lib.hid (OM.out.setAt j (x := d1 + d2) IN)
          rw [RD] at O3
          have T3 := Lib.hid (TM.out.set (g := w.heap.size + 1) (o := j) (x := .int .i64 (d1 + d2)) (by omega))
          have B3 := Lib.hid (BM.out.setCell (p := ⟨w.heap.size + 1, j, none⟩) (by simp) (.int .i64 (d1 + d2)))
          have j0 : (0 : Int) ≤ (j : Int) := by omega
          have j1 : (j : Int) < (ps.length : Int) := by omega
          unfold InI64 at IN B1 B2
          obtain ⟨in1, in2⟩ := IN
          obtain ⟨in3, in4⟩ := B1
          obtain ⟨in5, in6⟩ := B2
          clear hd1 hd2 RD hj q1 q2 ML MX MO OM TM BM
          go_region
          go_wp2_with fail
          go_roundw
          case rel => exact ⟨x, by omega, rfl, Lib.hid (by have h := O3.out.below (below_drew (Below.refl _ _)); rw [HM1.out] at h; simpa [World.setCell] using h), Lib.hid (show TBox _ _ _ _ from T3.out), Lib.hid (below_drew B3.out)⟩
          case measure => simp [intOf]
      · have e0 : decide (0 < ws.getD x 0) = true := by
          rw [decide_eq_true_eq, EI.out]; exact hl
        rw [e0]
        clear e0 EI
        by_cases hx0 : x = 0
        · have CP := Lib.hid (PP.out w1 x hlt hl HB1.out)
          rw [← HVA.out] at CP
          have x0' : ¬ (0 : Int) < (x : Int) := by omega
          have HX0 := Lib.hid hx0
          clear hx0
          go_wp2_with (go_at_fn g; refine CP.out.mono ?_; rintro e w2 ⟨rfl, b2⟩; (have HO2 := Lib.hid ((HO1.out.below b2).wide b2.size (Nat.le_refl _))); (have HT2 := Lib.hid (HT1.out.below b2 HT1.out.lt)); (have HB2 := Lib.hid (HB1.out.trans (b2.mono HB1.out.size))); clear b2; (have hcx := HO2.out.cellGet (j := x) (by rw [upI_len]; exact hlt)); (have hfx := HO2.out.frozenGet x); (obtain ⟨y0, y1⟩ := HT2.out.cells))
          have OM := Lib.hid (HO2.out.setAt x (x := va) VA.out)
          have TM := Lib.hid (HT2.out.set (g := w.heap.size + 1) (o := x) (x := .int .i64 va) (by omega))
          have BM := Lib.hid (HB2.out.setCell (p := ⟨w.heap.size + 1, x, none⟩) (by simp) (.int .i64 va))
          obtain ⟨W2, hW2⟩ : ∃ W2, W2 = w2.setCell ⟨w.heap.size + 1, x, none⟩ (.int .i64 va) := ⟨_, rfl⟩
          have zW : W2.heap.size = w2.heap.size := by rw [hW2]; simp [World.setCell]
          rw [← hW2] at OM TM BM
          rw [← zW] at OM
          have ML : Hid (((upI ps vals m).set x va).length = ps.length) := Lib.hid (by rw [List.length_set, upI_len])
          have MX : Hid (((upI ps vals m).set x va).getD x 0 = (upL ps vals m).getD x 0) := Lib.hid (by rw [HVA.out]; exact upI_leaf HP.out m HMX.out hl HL.out)
          have MO : Hid (∀ y, y < ps.length → y ≠ x → ((upI ps vals m).set x va).getD y 0 = (upI ps vals m).getD y 0) := Lib.hid (fun y _ hy => getD_set_other (fun e => hy e.symm))
          rw [← hW2]
          clear hW2 zW HO2 HT2 HB2 hcx hfx y0 y1 CP
          generalize (upI ps vals m).set x va = MM at *
          have OE := Lib.hid (upI_end HL.out hn1 ML.out (by have h := MX.out; rw [HX0.out, (show m = ps.length - 1 by have := HM.out; have := HX0.out; omega)] at h; exact h) (fun y h1 h2 => by have h := MO.out y h1 (by have := HX0.out; omega); rw [(show m = ps.length - 1 by have := HM.out; have := HX0.out; omega)] at h; exact h))
          go_roundw
          case rel => exact ⟨0, by omega, by have := HX0.out; subst this; simp, Lib.hid (by rw [show ps.length - 0 = ps.length by omega, upI_all ps vals HL.out, upL_last ps vals hn1, ← OE.out]; exact OM.out), TM, BM⟩
          case measure => simp [intOf]
        · have CP := Lib.hid (PP.out w1 x hlt hl HB1.out)
          rw [← HVA.out] at CP
          have x0' : (0 : Int) < (x : Int) := by omega
          go_wp2_with (go_at_fn g; refine CP.out.mono ?_; rintro e w2 ⟨rfl, b2⟩; (have HO2 := Lib.hid ((HO1.out.below b2).wide b2.size (Nat.le_refl _))); (have HT2 := Lib.hid (HT1.out.below b2 HT1.out.lt)); (have HB2 := Lib.hid (HB1.out.trans (b2.mono HB1.out.size))); clear b2; (have hcx := HO2.out.cellGet (j := x) (by rw [upI_len]; exact hlt)); (have hfx := HO2.out.frozenGet x); (obtain ⟨y0, y1⟩ := HT2.out.cells))
          have OM := Lib.hid (HO2.out.setAt x (x := va) VA.out)
          have TM := Lib.hid (HT2.out.set (g := w.heap.size + 1) (o := x) (x := .int .i64 va) (by omega))
          have BM := Lib.hid (HB2.out.setCell (p := ⟨w.heap.size + 1, x, none⟩) (by simp) (.int .i64 va))
          obtain ⟨W2, hW2⟩ : ∃ W2, W2 = w2.setCell ⟨w.heap.size + 1, x, none⟩ (.int .i64 va) := ⟨_, rfl⟩
          have zW : W2.heap.size = w2.heap.size := by rw [hW2]; simp [World.setCell]
          rw [← hW2] at OM TM BM
          rw [← zW] at OM
          have ML : Hid (((upI ps vals m).set x va).length = ps.length) := Lib.hid (by rw [List.length_set, upI_len])
          have MX : Hid (((upI ps vals m).set x va).getD x 0 = (upL ps vals m).getD x 0) := Lib.hid (by rw [HVA.out]; exact upI_leaf HP.out m HMX.out hl HL.out)
          have MO : Hid (∀ y, y < ps.length → y ≠ x → ((upI ps vals m).set x va).getD y 0 = (upI ps vals m).getD y 0) := Lib.hid (fun y _ hy => getD_set_other (fun e => hy e.symm))
          rw [← hW2]
          clear hW2 zW HO2 HT2 HB2 hcx hfx y0 y1 CP
          generalize (upI ps vals m).set x va = MM at *
          obtain ⟨q1, q2⟩ := GP.out x (by omega) hlt
          obtain ⟨j, hj⟩ : ∃ j : Nat, ps.getD x 0 = (j : Int) := ⟨(ps.getD x 0).toNat, by omega⟩
          have hjx : j < x := by omega
          have hcw : W2.cell? ⟨b, off + x, none⟩ = some (.int .i64 j) := by rw [BM.out.cell (p := ⟨b, off + x, none⟩) hb, HC.out, hj]
          have RD := upI_round HP.out HL.out m HMX.out (by omega) ML.out MX.out MO.out
          rw [hj, show ((j : Int)).toNat = j by omega] at RD
          have hdj := OM.out.cellGet (j := j) (by have := ML.out; omega)
          have hdx := OM.out.cellGet (j := x) (by have := ML.out; omega)
          have hfj := OM.out.frozenGet j
          obtain ⟨y0, y1⟩ := TM.out.cells
          have IN : InI64 (MM.getD j 0 + MM.getD x 0) := by have hh := UB.out j (by omega) (by have := HM1.out; omega); rw [← RD, getD_set_same (by have := ML.out; omega)] at hh; unfold InI64; omega
          have B1 : InI64 (MM.getD j 0) := OM.out.in64 _ (by rw [List.getD_eq_getElem?_getD, List.getElem?_eq_getElem (by have := ML.out; omega)]; exact List.getElem_mem _)
          have B2 : InI64 (MM.getD x 0) := OM.out.in64 _ (by rw [List.getD_eq_getElem?_getD, List.getElem?_eq_getElem (by have := ML.out; omega)]; exact List.getElem_mem _)
          obtain ⟨d1, hd1⟩ : ∃ d, d = MM.getD j 0 := ⟨_, rfl⟩
          obtain ⟨d2, hd2⟩ : ∃ d, d = MM.getD x 0 := ⟨_, rfl⟩
          rw [← hd1] at hdj RD IN B1
          rw [← hd2] at hdx RD IN B2
          have O3 := Lib.hid (OM.out.setAt j (x := d1 + d2) IN)
          rw [RD] at O3
          have T3 := Lib.hid (TM.out.set (g := w.heap.size + 1) (o := j) (x := .int .i64 (d1 + d2)) (by omega))
          have B3 := Lib.hid (BM.out.setCell (p := ⟨w.heap.size + 1, j, none⟩) (by simp) (.int .i64 (d1 + d2)))
          have j0 : (0 : Int) ≤ (j : Int) := by omega
          have j1 : (j : Int) < (ps.length : Int) := by omega
          unfold InI64 at IN B1 B2
          obtain ⟨in1, in2⟩ := IN
          obtain ⟨in3, in4⟩ := B1
          obtain ⟨in5, in6⟩ := B2
          clear hd1 hd2 RD hj q1 q2 ML MX MO OM TM BM
          go_region
          go_wp2_with fail
          go_roundw
          case rel => exact ⟨x, by omega, rfl, Lib.hid (by have h := O3.out.below (below_drew (Below.refl _ _)); rw [HM1.out] at h; simpa [World.setCell] using h), Lib.hid (show TBox _ _ _ _ from T3.out), Lib.hid (below_drew B3.out)⟩
          case measure => simp [intOf]
end Go.Proofs.Ytligidmkhbcpmac
