/- CountStops in the program. -/
import Derived.Test.YtonlibncccljgaaCntP
import Derived.Test.YtonlibncccljgaaCntR
import Derived.Test.YtonlibncccljgaaSumI
import Derived.Test.YtonlibncccljgaaLawT
import Derived.IntWalk
namespace Go.Proofs.Ytonlibncccljgaa
open Go.RowKit
set_option linter.unusedVariables false
/-- What CountStops returns. -/
def cntW (ps ws : List Int) : Value := .tuple #[.int .i64 (if goodT ps ws = true then cntF ps 0 else 0), .bool (goodT ps ws)]
theorem cntW_form (ps ws : List Int) : ∃ rx ok, cntW ps ws = .tuple #[.int .i64 rx, .bool ok] := ⟨_, _, rfl⟩
theorem cntW_no {ps ws : List Int} (h : goodT ps ws = false) : cntW ps ws = .tuple #[.int .i64 0, .bool false] := by unfold cntW; rw [h]; rfl
theorem cntW_ok {ps ws : List Int} (h : goodT ps ws = true) : cntW ps ws = .tuple #[.int .i64 (cntF ps 0), .bool true] := by unfold cntW; rw [h]; rfl
theorem set_same {L : List Int} {x : Nat} (h : x < L.length) : L.set x (L.getD x 0) = L := by
  refine list_ext_getD (by simp) fun y hy => ?_
  by_cases e : x = y
  · subst e; rw [getD_set_same h]
  · rw [getD_set_other e]
theorem cnt_leaf {ps : List Int} {m x : Nat} (hx : x < ps.length) (hl : leafB ps x = true) : (cntL ps m).set x (cntV ps (cntL ps m) x) = cntL ps m := by
  unfold cntV; rw [if_pos hl]; exact set_same (by rw [cntL_len]; exact hx)
theorem cnt_inner {ps : List Int} {m x : Nat} (hl : leafB ps x = false) : (cntL ps m).set x (cntV ps (cntL ps m) x) = (cntL ps m).set x ((cntL ps m).getD x 0 + 1) := by
  unfold cntV; rw [if_neg (by rw [hl]; decide)]
theorem cnt_zero {ps : List Int} {m x : Nat} (hx : ps.length - 1 - m = x) (h0 : x = 0) : (cntL ps m).set x (cntV ps (cntL ps m) x) = cntL ps (m + 1) := by
  rw [cntL, hx]; unfold cntUp; rw [if_pos h0]
theorem cnt_up {ps : List Int} {m x : Nat} (hx : ps.length - 1 - m = x) (hl : x < ps.length) (h0 : 0 < x) {M : List Int} (hM : M = (cntL ps m).set x (cntV ps (cntL ps m) x)) : M.set (ps.getD x 0).toNat (M.getD (ps.getD x 0).toNat 0 * M.getD x 0) = cntL ps (m + 1) := by
  have e : M.getD x 0 = cntV ps (cntL ps m) x := by rw [hM, getD_set_same (by rw [cntL_len]; exact hl)]
  rw [e, hM, cntL, hx]; unfold cntUp; rw [if_neg (by omega)]
set_option maxRecDepth 100000 in
set_option maxHeartbeats 8000000 in
theorem cntI (ps ws : List Int) (v : Value) (w : World) (h : TreeV w w.heap.size v ps ws) :
    Calls Try.prog 32 #[v] w (Gives (cntW ps ws) w) := by
  have G := Lib.hid (fun w' (hb : Below w.heap.size w w') => isTreeI ps ws v w' (h.boxed hb))
  have ISE := Lib.hid (fun w' x (hx : x < ws.length) (hb : Below w.heap.size w w') => isEndI ps ws v x w' hx (h.boxed hb))
  obtain ⟨v1, v2, rfl, ⟨p1, c1, rfl, l1, m1, _, i1⟩, ⟨p2, c2, rfl, l2, m2, _, i2⟩⟩ := h
  have P1 := Lib.hid i1
  clear i1 i2 m1 m2 l1 l2
  have B1 := (Below.refl w.heap.size w).alloc (Nat.le_refl _) (.cells #[.slice p1 ps.length c1, .slice p2 ws.length c2] 29)
  obtain ⟨wa, hwa⟩ : ∃ wa, wa = w.alloc (.cells #[.slice p1 ps.length c1, .slice p2 ws.length c2] 29) := ⟨_, rfl⟩
  have T1 : Hid (TBox wa w.heap.size (.slice p1 ps.length c1) (.slice p2 ws.length c2)) := Lib.hid (by rw [hwa]; exact alloc_heap w _)
  rw [← hwa] at B1
  have HBA := Lib.hid B1
  clear B1
  obtain ⟨x0, x1⟩ := T1.out.cells
  cases hg : goodT ps ws
  · rw [hg] at G
    have R := Lib.hid (cntW_no hg)
    clear hg
    go_enter Try.func32, Try.ntmps32
    go_wp2_with fail
    rw [← hwa]
    clear hwa
    refine (G.out _ HBA.out).mono ?_
    rintro e w1 ⟨rfl, b1⟩
    have HB1 := Lib.hid (HBA.out.trans (b1.mono HBA.out.size))
    clear b1
    go_wp2_with fail
    go_ret2
    exact ⟨by rw [R.out]; rfl, HB1.out⟩
  · rw [hg] at G
    have R := Lib.hid (cntW_ok hg)
    have gd := Good.of hg
    have hn := gd.n24
    have hn1 := gd.n1
    have GP := Lib.hid gd.par
    have GE := Lib.hid (fun x (hx : x < ps.length) => gd.end_iff hx)
    have NW := Lib.hid gd.nw
    have BD := Lib.hid (fun (m y : Nat) (hm : m < ps.length) (hy : y < ps.length - m) => cntL_le (ParOk.of gd) hm hy)
    have PW := Lib.hid (fun (m : Nat) (h : m ≤ 24) => pow24 h)
    have LL := Lib.hid (fun m => cntL_len ps m)
    have ROOT := Lib.hid (cntL_root hn1)
    have LF := Lib.hid (fun (m x : Nat) (hx : x < ps.length) (hl : leafB ps x = true) => cnt_leaf (m := m) hx hl)
    have IN9 := Lib.hid (fun (m x : Nat) (hl : leafB ps x = false) => cnt_inner (m := m) hl)
    have ZR := Lib.hid (fun (m x : Nat) (hx : ps.length - 1 - m = x) (h0 : x = 0) => cnt_zero hx h0)
    have UP := Lib.hid (fun (m x : Nat) (hx : ps.length - 1 - m = x) (hl : x < ps.length) (h0 : 0 < x) (M : List Int) (hM : M = (cntL ps m).set x (cntV ps (cntL ps m) x)) => cnt_up hx hl h0 hM)
    have Z0 : Hid (cntL ps 0 = List.replicate ps.length 1) := Lib.hid rfl
    clear gd hg
    go_enter Try.func32, Try.ntmps32
    go_wp2_with fail
    rw [← hwa]
    clear hwa
    refine (G.out _ HBA.out).mono ?_
    rintro e w1 ⟨rfl, b1⟩
    have HB1 := Lib.hid (HBA.out.trans (b1.mono HBA.out.size))
    have T2 := Lib.hid (T1.out.below b1 T1.out.lt)
    clear b1 x0 x1 T1 HBA
    obtain ⟨x0, x1⟩ := T2.out.cells
    have HB2 := Lib.hid (HB1.out.alloc HB1.out.size (.cells #[.int .i64 1] 3))
    have T3 := Lib.hid (T2.out.alloc (.cells #[.int .i64 1] 3))
    have cone : (w1.alloc (.cells #[.int .i64 1] 3)).cell? ⟨w1.heap.size, 0, none⟩ = some (.int .i64 1) := (cell_of_heap (o := 0) (alloc_heap w1 (.cells #[.int .i64 1] 3)) rfl).1
    obtain ⟨wb, hwb⟩ : ∃ wb, wb = w1.alloc (.cells #[.int .i64 1] 3) := ⟨_, rfl⟩
    have szb : w1.heap.size < wb.heap.size := by rw [hwb]; simp
    rw [← hwb] at HB2 T3 cone
    have RP := Lib.hid (repeatI ps.length w1.heap.size 1 wb hn1 (by omega) cone szb)
    clear cone
    have hs1 : w.heap.size < w1.heap.size := T2.out.lt
    go_wp2_with fail
    rw [← hwb]
    clear hwb
    refine RP.out.mono ?_
    rintro e w2 ⟨u, rfl, o2, b2⟩
    obtain ⟨gb, ce, rfl, hg1, hg2⟩ := o2.shape (by simp; omega)
    have HB3 := Lib.hid (HB2.out.trans (b2.mono HB2.out.size))
    have T4 := Lib.hid (T3.out.below b2 T3.out.lt)
    have NG : Hid (w.heap.size < gb) := Lib.hid (by have := T3.out.lt; omega)
    have O2 : Hid (OwnV w2 (w.heap.size + 1) w2.heap.size (.slice (some ⟨gb, 0, none⟩) ps.length ce) (cntL ps 0)) := Lib.hid (by
      rw [Z0.out]
      have := o2.low (lo' := w.heap.size + 1) (by have := T3.out.lt; omega)
      simpa using this)
    rw [show (List.replicate ps.length (1 : Int)).length = ps.length by simp]
    clear b2 o2 T2 T3 HB1 HB2 RP x0 x1 hg1 hg2 szb hs1
    go_wp2_with fail
    go_loopw [5] (fun i wr => ∃ k : Nat, k ≤ ps.length ∧ i = .int .i64 ((k : Int) - 1) ∧ Hid (OwnV wr (w.heap.size + 1) wr.heap.size (.slice (some ⟨gb, 0, none⟩) ps.length ce) (cntL ps (ps.length - k))) ∧ Hid (TBox wr w.heap.size (.slice p1 ps.length c1) (.slice p2 ws.length c2)) ∧ Hid (Below w.heap.size w wr)) (fun i _ => (intOf i + 1).toNat)
    case atStart => exact ⟨ps.length, Nat.le_refl _, rfl, Lib.hid (by rw [Nat.sub_self]; exact O2.out), T4, HB3⟩
    case round =>
      obtain ⟨k, hk, rfl, HO, HT, HB⟩ := hrel
      obtain ⟨x0, x1⟩ := HT.out.cells
      clear T4 HB3 O2
      rcases Nat.eq_zero_or_pos k with hk0 | hk0
      · subst hk0
        rw [Nat.sub_zero] at HO
        have h0c := HO.out.cellGet (j := 0) (by rw [LL.out]; omega)
        rw [ROOT.out] at h0c
        have FIN : Hid (Gives (cntW ps ws) w (.returned (.tuple #[.int .i64 (cntF ps 0), .bool true])) wr) := Lib.hid ⟨by rw [R.out], HB.out⟩
        obtain ⟨r, hr⟩ : ∃ r, r = cntF ps 0 := ⟨_, rfl⟩
        rw [← hr] at h0c FIN
        have i1 : (0 : Int) < (ps.length : Int) := by omega
        clear HO HT HB hr
        go_wp2
        go_ret2
        exact FIN.out
      · obtain ⟨x, rfl⟩ : ∃ x, k = x + 1 := ⟨k - 1, by omega⟩
        rw [show (((x + 1 : Nat) : Int) - 1) = (x : Int) by omega]
        have hlt : x < ps.length := by omega
        obtain ⟨m, hm⟩ : ∃ m, m = ps.length - (x + 1) := ⟨_, rfl⟩
        rw [← hm] at HO
        have hmx : ps.length - 1 - m = x := by omega
        have hm1 : m + 1 = ps.length - x := by omega
        have hmn : m < ps.length := by omega
        have hm24 : m ≤ 23 := by omega
        have HM := Lib.hid hm
        have HMX := Lib.hid hmx
        have HM1 := Lib.hid hm1
        obtain ⟨b, off, rfl, hb, hc⟩ := P1.out.get hlt
        have C := Lib.hid (fun w' (hb : Below w.heap.size w w') => ISE.out w' x (by rw [NW.out]; exact hlt) hb)
        have i0 : (0 : Int) ≤ (x : Int) := by omega
        have i1 : (x : Int) < (ps.length : Int) := by omega
        have EI := Lib.hid (GE.out x hlt)
        have HC := Lib.hid hc
        have lx := BD.out m x hmn (by omega)
        have p24 := PW.out m (by omega)
        have LXB : Hid (1 ≤ (cntL ps m).getD x 0 ∧ (cntL ps m).getD x 0 ≤ 16777216) := Lib.hid (by omega)
        clear hm hmx hm1 hc lx p24
        go_wp2_with fail
        refine (C.out _ HB.out).mono ?_
        rintro e w1 ⟨rfl, b1⟩
        have HO1 := Lib.hid ((HO.out.below b1).wide b1.size (Nat.le_refl _))
        have HT1 := Lib.hid (HT.out.below b1 HT.out.lt)
        have HB1 := Lib.hid (HB.out.trans (b1.mono HB.out.size))
        clear b1 HO HT HB x0 x1 C
        obtain ⟨x0, x1⟩ := HT1.out.cells
        cases hl : leafB ps x
        · have e0 : decide (0 < ws.getD x 0) = false := by
            rw [decide_eq_false_iff_not, EI.out, hl]; decide
          rw [e0]
          clear e0 EI
          have hcx := HO1.out.cellGet (j := x) (by rw [LL.out]; exact hlt)
          have hfx := HO1.out.frozenGet x
          have lxb := LXB.out
          have ME := Lib.hid (IN9.out m x hl)
          by_cases hx0 : x = 0
          · obtain ⟨lx, hlx⟩ : ∃ z, z = (cntL ps m).getD x 0 := ⟨_, rfl⟩
            rw [← hlx] at hcx lxb ME
            have OM := Lib.hid (HO1.out.setAt x (x := lx + 1) (by unfold InI64; omega))
            have TM := Lib.hid (HT1.out.set (g := gb) (o := x) (x := .int .i64 (lx + 1)) (by have := NG.out; omega))
            have BM := Lib.hid (HB1.out.setCell (p := ⟨gb, x, none⟩) (Nat.le_of_lt NG.out) (.int .i64 (lx + 1)))
            have ML : Hid (((cntL ps m).set x (lx + 1)).length = ps.length) := Lib.hid (by rw [List.length_set]; exact LL.out m)
            obtain ⟨MM, hMM⟩ : ∃ MM, MM = (cntL ps m).set x (lx + 1) := ⟨_, rfl⟩
            have EQM : Hid (MM = (cntL ps m).set x (cntV ps (cntL ps m) x)) := Lib.hid (by rw [hMM, ME.out])
            rw [← hMM] at OM ML
            obtain ⟨W2, hW2⟩ : ∃ W2, W2 = w1.setCell ⟨gb, x, none⟩ (.int .i64 (lx + 1)) := ⟨_, rfl⟩
            have zW : W2.heap.size = w1.heap.size := by rw [hW2]; simp [World.setCell]
            rw [← hW2] at OM TM BM
            rw [← zW] at OM
            clear hMM hlx zW
            have x0' : ¬ (0 : Int) < (x : Int) := by omega
            have NXT : Hid (MM = cntL ps (m + 1)) := Lib.hid (by rw [EQM.out]; exact ZR.out m x HMX.out hx0)
            have HX0 := Lib.hid hx0
            clear hx0
            go_wp2_with fail
            try rw [← hW2]
            clear hW2 hcx hfx lxb
            go_roundw
            case rel => exact ⟨0, by omega, by have := HX0.out; subst this; simp, Lib.hid (by have h := OM.out; rw [NXT.out] at h; rwa [show ps.length - 0 = m + 1 by have := HM1.out; have := HX0.out; omega]), TM, BM⟩
            case measure => simp [intOf]
          · obtain ⟨lx, hlx⟩ : ∃ z, z = (cntL ps m).getD x 0 := ⟨_, rfl⟩
            rw [← hlx] at hcx lxb ME
            have OM := Lib.hid (HO1.out.setAt x (x := lx + 1) (by unfold InI64; omega))
            have TM := Lib.hid (HT1.out.set (g := gb) (o := x) (x := .int .i64 (lx + 1)) (by have := NG.out; omega))
            have BM := Lib.hid (HB1.out.setCell (p := ⟨gb, x, none⟩) (Nat.le_of_lt NG.out) (.int .i64 (lx + 1)))
            have ML : Hid (((cntL ps m).set x (lx + 1)).length = ps.length) := Lib.hid (by rw [List.length_set]; exact LL.out m)
            obtain ⟨MM, hMM⟩ : ∃ MM, MM = (cntL ps m).set x (lx + 1) := ⟨_, rfl⟩
            have EQM : Hid (MM = (cntL ps m).set x (cntV ps (cntL ps m) x)) := Lib.hid (by rw [hMM, ME.out])
            rw [← hMM] at OM ML
            obtain ⟨W2, hW2⟩ : ∃ W2, W2 = w1.setCell ⟨gb, x, none⟩ (.int .i64 (lx + 1)) := ⟨_, rfl⟩
            have zW : W2.heap.size = w1.heap.size := by rw [hW2]; simp [World.setCell]
            rw [← hW2] at OM TM BM
            rw [← zW] at OM
            clear hMM hlx zW
            have x0' : (0 : Int) < (x : Int) := by omega
            go_wp2_with fail
            try rw [← hW2]
            clear hW2 hcx hfx lxb
            obtain ⟨q1, q2⟩ := GP.out x (by omega) hlt
            obtain ⟨j, hj⟩ : ∃ j : Nat, ps.getD x 0 = (j : Int) := ⟨(ps.getD x 0).toNat, by omega⟩
            have hjx : j < x := by omega
            have hcw : W2.cell? ⟨b, off + x, none⟩ = some (.int .i64 j) := by rw [BM.out.cell (p := ⟨b, off + x, none⟩) hb, HC.out, hj]
            have RD := UP.out m x HMX.out hlt (by omega) MM EQM.out
            rw [hj, show ((j : Int)).toNat = j by omega] at RD
            have hdj := OM.out.cellGet (j := j) (by have := ML.out; omega)
            have hdx := OM.out.cellGet (j := x) (by have := ML.out; omega)
            have hfj := OM.out.frozenGet j
            obtain ⟨y0, y1⟩ := TM.out.cells
            have IN : 1 ≤ MM.getD j 0 * MM.getD x 0 ∧ MM.getD j 0 * MM.getD x 0 ≤ 16777216 := by
              have hh := BD.out (m + 1) j (by have := HM1.out; omega) (by have := HM1.out; omega)
              have p24 := PW.out (m + 1) (by omega)
              rw [← RD, getD_set_same (by have := ML.out; omega)] at hh
              omega
            have B1 : InI64 (MM.getD j 0) := OM.out.in64 _ (by rw [List.getD_eq_getElem?_getD, List.getElem?_eq_getElem (by have := ML.out; omega)]; exact List.getElem_mem _)
            have B2 : InI64 (MM.getD x 0) := OM.out.in64 _ (by rw [List.getD_eq_getElem?_getD, List.getElem?_eq_getElem (by have := ML.out; omega)]; exact List.getElem_mem _)
            obtain ⟨d1, hd1⟩ : ∃ d, d = MM.getD j 0 := ⟨_, rfl⟩
            obtain ⟨d2, hd2⟩ : ∃ d, d = MM.getD x 0 := ⟨_, rfl⟩
            rw [← hd1] at hdj RD IN B1
            rw [← hd2] at hdx RD IN B2
            have O3 := Lib.hid (OM.out.setAt j (x := d1 * d2) (by unfold InI64; omega))
            rw [RD] at O3
            have T3 := Lib.hid (TM.out.set (g := gb) (o := j) (x := .int .i64 (d1 * d2)) (by have := NG.out; omega))
            have B3 := Lib.hid (BM.out.setCell (p := ⟨gb, j, none⟩) (Nat.le_of_lt NG.out) (.int .i64 (d1 * d2)))
            have j0 : (0 : Int) ≤ (j : Int) := by omega
            have j1 : (j : Int) < (ps.length : Int) := by omega
            have WR : IntKind.i64.wrap (d1 * d2) = d1 * d2 := IntWalk.i64_in _ (by omega)
            clear hd1 hd2 RD hj q1 q2 ML OM TM BM EQM IN B1 B2
            go_region
            go_wp2_with fail
            go_roundw
            case rel => exact ⟨x, by omega, rfl, Lib.hid (by have h := O3.out.below (below_drew (Below.refl _ _)); rw [HM1.out] at h; simpa [World.setCell] using h), Lib.hid (show TBox _ _ _ _ from T3.out), Lib.hid (below_drew B3.out)⟩
            case measure => simp [intOf]
        · have e0 : decide (0 < ws.getD x 0) = true := by
            rw [decide_eq_true_eq, EI.out]; exact hl
          rw [e0]
          clear e0 EI
          have hcx := HO1.out.cellGet (j := x) (by rw [LL.out]; exact hlt)
          have hfx := HO1.out.frozenGet x
          have lxb := LXB.out
          have ME := Lib.hid (LF.out m x hlt hl)
          by_cases hx0 : x = 0
          · have OM := HO1
            have TM := HT1
            have BM := HB1
            have EQ : Hid ((cntL ps m) = (cntL ps m).set x (cntV ps (cntL ps m) x)) := Lib.hid ME.out.symm
            have ML : Hid ((cntL ps m).length = ps.length) := Lib.hid (LL.out m)
            obtain ⟨MM, hMM⟩ : ∃ MM, MM = cntL ps m := ⟨_, rfl⟩
            have EQM : Hid (MM = (cntL ps m).set x (cntV ps (cntL ps m) x)) := Lib.hid (by rw [hMM]; exact EQ.out)
            rw [← hMM] at OM ML
            obtain ⟨W2, hW2⟩ : ∃ W2, W2 = w1 := ⟨_, rfl⟩
            subst hW2
            clear hMM EQ hcx hfx lxb
            have x0' : ¬ (0 : Int) < (x : Int) := by omega
            have NXT : Hid (MM = cntL ps (m + 1)) := Lib.hid (by rw [EQM.out]; exact ZR.out m x HMX.out hx0)
            have HX0 := Lib.hid hx0
            clear hx0
            go_wp2_with fail
            go_roundw
            case rel => exact ⟨0, by omega, by have := HX0.out; subst this; simp, Lib.hid (by have h := OM.out; rw [NXT.out] at h; rwa [show ps.length - 0 = m + 1 by have := HM1.out; have := HX0.out; omega]), TM, BM⟩
            case measure => simp [intOf]
          · have OM := HO1
            have TM := HT1
            have BM := HB1
            have EQ : Hid ((cntL ps m) = (cntL ps m).set x (cntV ps (cntL ps m) x)) := Lib.hid ME.out.symm
            have ML : Hid ((cntL ps m).length = ps.length) := Lib.hid (LL.out m)
            obtain ⟨MM, hMM⟩ : ∃ MM, MM = cntL ps m := ⟨_, rfl⟩
            have EQM : Hid (MM = (cntL ps m).set x (cntV ps (cntL ps m) x)) := Lib.hid (by rw [hMM]; exact EQ.out)
            rw [← hMM] at OM ML
            obtain ⟨W2, hW2⟩ : ∃ W2, W2 = w1 := ⟨_, rfl⟩
            subst hW2
            clear hMM EQ hcx hfx lxb
            have x0' : (0 : Int) < (x : Int) := by omega
            go_wp2_with fail
            obtain ⟨q1, q2⟩ := GP.out x (by omega) hlt
            obtain ⟨j, hj⟩ : ∃ j : Nat, ps.getD x 0 = (j : Int) := ⟨(ps.getD x 0).toNat, by omega⟩
            have hjx : j < x := by omega
            have hcw : W2.cell? ⟨b, off + x, none⟩ = some (.int .i64 j) := by rw [BM.out.cell (p := ⟨b, off + x, none⟩) hb, HC.out, hj]
            have RD := UP.out m x HMX.out hlt (by omega) MM EQM.out
            rw [hj, show ((j : Int)).toNat = j by omega] at RD
            have hdj := OM.out.cellGet (j := j) (by have := ML.out; omega)
            have hdx := OM.out.cellGet (j := x) (by have := ML.out; omega)
            have hfj := OM.out.frozenGet j
            obtain ⟨y0, y1⟩ := TM.out.cells
            have IN : 1 ≤ MM.getD j 0 * MM.getD x 0 ∧ MM.getD j 0 * MM.getD x 0 ≤ 16777216 := by
              have hh := BD.out (m + 1) j (by have := HM1.out; omega) (by have := HM1.out; omega)
              have p24 := PW.out (m + 1) (by omega)
              rw [← RD, getD_set_same (by have := ML.out; omega)] at hh
              omega
            have B1 : InI64 (MM.getD j 0) := OM.out.in64 _ (by rw [List.getD_eq_getElem?_getD, List.getElem?_eq_getElem (by have := ML.out; omega)]; exact List.getElem_mem _)
            have B2 : InI64 (MM.getD x 0) := OM.out.in64 _ (by rw [List.getD_eq_getElem?_getD, List.getElem?_eq_getElem (by have := ML.out; omega)]; exact List.getElem_mem _)
            obtain ⟨d1, hd1⟩ : ∃ d, d = MM.getD j 0 := ⟨_, rfl⟩
            obtain ⟨d2, hd2⟩ : ∃ d, d = MM.getD x 0 := ⟨_, rfl⟩
            rw [← hd1] at hdj RD IN B1
            rw [← hd2] at hdx RD IN B2
            have O3 := Lib.hid (OM.out.setAt j (x := d1 * d2) (by unfold InI64; omega))
            rw [RD] at O3
            have T3 := Lib.hid (TM.out.set (g := gb) (o := j) (x := .int .i64 (d1 * d2)) (by have := NG.out; omega))
            have B3 := Lib.hid (BM.out.setCell (p := ⟨gb, j, none⟩) (Nat.le_of_lt NG.out) (.int .i64 (d1 * d2)))
            have j0 : (0 : Int) ≤ (j : Int) := by omega
            have j1 : (j : Int) < (ps.length : Int) := by omega
            have WR : IntKind.i64.wrap (d1 * d2) = d1 * d2 := IntWalk.i64_in _ (by omega)
            clear hd1 hd2 RD hj q1 q2 ML OM TM BM EQM IN B1 B2
            go_region
            go_wp2_with fail
            go_roundw
            case rel => exact ⟨x, by omega, rfl, Lib.hid (by have h := O3.out.below (below_drew (Below.refl _ _)); rw [HM1.out] at h; simpa [World.setCell] using h), Lib.hid (show TBox _ _ _ _ from T3.out), Lib.hid (below_drew B3.out)⟩
            case measure => simp [intOf]
end Go.Proofs.Ytonlibncccljgaa
