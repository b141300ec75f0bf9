/- Chances of an event, given another one, in the model. -/
import Derived.Test.YtfnnlkbecnjloabGivI
namespace Go.Proofs.Ytfnnlkbecnjloab
open Go.RowKit
set_option linter.unusedVariables false
theorem both_in {ps ws a b : List Int} (e : Ev ps ws a) : ∀ i, i < (bothL a b).length → 0 ≤ (bothL a b).getD i 0 ∧ (bothL a b).getD i 0 < (ws.length : Int) := by
  intro i hi
  have hm : (bothL a b).getD i 0 ∈ bothL a b := by
    rw [List.getD_eq_getElem?_getD, List.getElem?_eq_getElem hi]
    exact List.getElem_mem hi
  obtain ⟨j, hj, he⟩ := mem_getD (List.mem_filter.1 hm).1
  rw [← he]
  exact e.in_ws j hj
set_option maxRecDepth 100000 in
set_option maxHeartbeats 8000000 in
theorem givM (ps ws a b : List Int) (v ua ub : Value) (w : World) (hla : a.length ≤ 1048576) (hlb : b.length ≤ 1048576) (h : TreeV w w.heap.size v ps ws) (ha : IntsV w w.heap.size ua a) (hb0 : IntsV w w.heap.size ub b) :
    Calls Try.prog 35 #[v, ua, ub] w (Gives (givV ps ws a b) w) := by
  have TV := Lib.hid h
  have AV := Lib.hid ha
  have BV := Lib.hid hb0
  have EA := Lib.hid (fun w' (hb : Below w.heap.size w w') => eventS ps ws a v ua w' hla (h.boxed hb) ((ha.below hb).more hb.size))
  have EBS := Lib.hid (fun w' (hb : Below w.heap.size w w') => eventS ps ws b v ub w' hlb (h.boxed hb) ((hb0.below hb).more hb.size))
  obtain ⟨p1, c1, p2, c2, rfl⟩ := h.shape
  obtain ⟨qa, da, rfl, _⟩ := ha
  obtain ⟨qb, db, rfl, _⟩ := hb0
  clear h
  have B1 := ((Below.refl w.heap.size w).alloc (Nat.le_refl _) (.cells #[.slice p1 ps.length c1, .slice p2 ws.length c2] 29)).alloc (by simp) (.cells #[.int .i64 0, .int .i64 0] 26)
  have K0 := alloc_two w (.cells #[.slice p1 ps.length c1, .slice p2 ws.length c2] 29) (.cells #[.int .i64 0, .int .i64 0] 26)
  obtain ⟨wa, hwa⟩ : ∃ wa, wa = (w.alloc (.cells #[.slice p1 ps.length c1, .slice p2 ws.length c2] 29)).alloc (.cells #[.int .i64 0, .int .i64 0] 26) := ⟨_, rfl⟩
  rw [← hwa] at B1 K0
  have T1 := Lib.hid (show TBox wa w.heap.size (.slice p1 ps.length c1) (.slice p2 ws.length c2) from K0.1)
  have R1 := Lib.hid (show PBox wa (w.heap.size + 1) 0 0 from K0.2)
  have HBA := Lib.hid B1
  clear K0 B1
  obtain ⟨x0, x1⟩ := T1.out.cells
  obtain ⟨ea, hea⟩ : ∃ ea, ea = evB ps ws a := ⟨_, rfl⟩
  obtain ⟨eb, heb⟩ : ∃ eb, eb = evB ps ws b := ⟨_, rfl⟩
  rw [← hea] at EA
  rw [← heb] at EBS
  have VA := Lib.hid hea
  have VB := Lib.hid heb
  clear hea heb
  cases ea
  · have CV : Hid (givV ps ws a b = zeroP) := Lib.hid (by unfold givV givB; rw [← VA.out]; simp)
    go_enter Try.func35, Try.ntmps35
    go_wp2_with fail
    rw [← hwa]
    clear hwa
    refine (EA.out _ HBA.out).mono ?_
    rintro e w1 ⟨rfl, b1⟩
    have HB1 := Lib.hid (HBA.out.trans (b1.mono HBA.out.size))
    obtain ⟨c0, c1, f0, f1⟩ := (R1.out.below b1 R1.out.lt).cells
    clear b1 x0 x1
    go_wp2_with fail
    refine bodyPost_ret (v := .tuple #[.agg #[.int .i64 0, .int .i64 0], .bool false]) (by simp [results, Try.results35, go_sem, c0, c1]) rfl ⟨by rw [CV.out]; rfl, ?_⟩
    exact (HB1.out.setCell (p := ⟨w.heap.size + 1, 0, none⟩) (by simp) _).setCell (p := ⟨w.heap.size + 1, 1, none⟩) (by simp) _
  · cases eb
    · have CV : Hid (givV ps ws a b = zeroP) := Lib.hid (by unfold givV givB; rw [← VB.out]; simp)
      go_enter Try.func35, Try.ntmps35
      go_wp2_with fail
      rw [← hwa]
      clear hwa
      refine (EA.out _ HBA.out).mono ?_
      rintro e w1 ⟨rfl, b1⟩
      have HB1 := Lib.hid (HBA.out.trans (b1.mono HBA.out.size))
      have T2 := Lib.hid (T1.out.below b1 T1.out.lt)
      have R2 := Lib.hid (R1.out.below b1 R1.out.lt)
      clear b1 x0 x1
      obtain ⟨x0, x1⟩ := T2.out.cells
      go_wp2_with fail
      refine (EBS.out _ HB1.out).mono ?_
      rintro e w2 ⟨rfl, b2⟩
      have HB2 := Lib.hid (HB1.out.trans (b2.mono HB1.out.size))
      obtain ⟨c0, c1, f0, f1⟩ := (R2.out.below b2 R2.out.lt).cells
      clear b2 x0 x1
      go_wp2_with fail
      refine bodyPost_ret (v := .tuple #[.agg #[.int .i64 0, .int .i64 0], .bool false]) (by simp [results, Try.results35, go_sem, c0, c1]) rfl ⟨by rw [CV.out]; rfl, ?_⟩
      exact (HB2.out.setCell (p := ⟨w.heap.size + 1, 0, none⟩) (by simp) _).setCell (p := ⟨w.heap.size + 1, 1, none⟩) (by simp) _
    · by_cases hb1 : 0 < b.length
      · have EAV := Lib.hid (evB_iff.1 VA.out.symm)
        have EB := Lib.hid (evB_iff.1 VB.out.symm)
        have nb0 : ((b.length : Int) == 0) = false := by rw [beq_eq_false_iff_ne]; omega
        have HB1P := Lib.hid hb1
        have CV : Hid (givV ps ws a b = .tuple #[.agg #[.int .i64 (cutN (heavyT ps ws (fun x => inL a (x : Int) && inL b (x : Int))) (heavyT ps ws (fun x => inL b (x : Int)))), .int .i64 (cutD (heavyT ps ws (fun x => inL a (x : Int) && inL b (x : Int))) (heavyT ps ws (fun x => inL b (x : Int))))], .bool true]) := Lib.hid (by
          unfold givV givB
          rw [if_pos (by rw [← VA.out, ← VB.out, decide_eq_true hb1]; rfl)])
        have CW : Hid (∀ w', Hid (MSt w w.heap.size (w.heap.size + 1) (.slice p1 ps.length c1) (.slice p2 ws.length c2) w') → Calls Try.prog 70 #[.agg #[.slice p1 ps.length c1, .slice p2 ws.length c2], .slice qb b.length db] w' (Gives (.int .i64 (heavyT ps ws (fun x => inL b (x : Int)))) w')) := Lib.hid (fun w' he => by
          rw [← EB.out.heavy]
          exact heavyS ps ws b _ _ w' hlb EB.out.good.ws_bd EB.out.in_ws (TV.out.boxed he.out.2.1) ((BV.out.below he.out.2.1).more he.out.2.1.size))
        have CO : Hid (∀ w', Hid (MSt w w.heap.size (w.heap.size + 1) (.slice p1 ps.length c1) (.slice p2 ws.length c2) w') → Calls Try.prog 74 #[.slice qa a.length da, .slice qb b.length db] w' (NewInts (bothL a b) w')) := Lib.hid (fun w' he => bothS a b _ _ w' hla hlb ((AV.out.below he.out.2.1).more he.out.2.1.size) ((BV.out.below he.out.2.1).more he.out.2.1.size))
        have CB : Hid (∀ w' u, Hid (MSt w w.heap.size (w.heap.size + 1) (.slice p1 ps.length c1) (.slice p2 ws.length c2) w') → Hid (IntsV w' w'.heap.size u (bothL a b)) → Calls Try.prog 70 #[.agg #[.slice p1 ps.length c1, .slice p2 ws.length c2], u] w' (Gives (.int .i64 (heavyT ps ws (fun x => inL a (x : Int) && inL b (x : Int)))) w')) := Lib.hid (fun w' u he hu => by
          rw [← both_heavy EAV.out]
          exact heavyS ps ws _ _ _ w' (Nat.le_trans (List.length_filter_le _ _) hla) EB.out.good.ws_bd (both_in EAV.out) (TV.out.boxed he.out.2.1) hu.out)
        have RC := Lib.hid (fun w' => cutS (heavyT ps ws (fun x => inL a (x : Int) && inL b (x : Int))) (heavyT ps ws (fun x => inL b (x : Int))) w' (by have := heavy_bd EB.out.good (fun x => inL a (x : Int) && inL b (x : Int)); omega) (by have := EB.out.heavy_pos HB1P.out; have := heavy_bd EB.out.good (fun x => inL b (x : Int)); omega))
        obtain ⟨hab, hhab⟩ : ∃ ha, ha = heavyT ps ws (fun x => inL a (x : Int) && inL b (x : Int)) := ⟨_, rfl⟩
        obtain ⟨hbb, hhbb⟩ : ∃ ha, ha = heavyT ps ws (fun x => inL b (x : Int)) := ⟨_, rfl⟩
        rw [← hhab] at CB RC CV
        rw [← hhbb] at CW RC CV
        obtain ⟨pn, hpn⟩ : ∃ pn, pn = cutN hab hbb := ⟨_, rfl⟩
        obtain ⟨pd, hpd⟩ : ∃ pd, pd = cutD hab hbb := ⟨_, rfl⟩
        rw [← hpn, ← hpd] at RC CV
        have KC : Hid (∀ w', Hid (MSt w w.heap.size (w.heap.size + 1) (.slice p1 ps.length c1) (.slice p2 ws.length c2) w') → w'.cell? ⟨w.heap.size, 0, none⟩ = some (.slice p1 ps.length c1) ∧ w'.cell? ⟨w.heap.size, 1, none⟩ = some (.slice p2 ws.length c2)) := Lib.hid (fun w' he => he.out.1.cells)
        have hgR : w.heap.size ≠ w.heap.size + 1 := by omega
        clear hhab hhbb hpn hpd hb1
        go_enter Try.func35, Try.ntmps35
        go_wp2_with fail
        rw [← hwa]
        clear hwa
        refine (EA.out _ HBA.out).mono ?_
        rintro e w1 ⟨rfl, b1⟩
        have HB1 := Lib.hid (HBA.out.trans (b1.mono HBA.out.size))
        have T2 := Lib.hid (T1.out.below b1 T1.out.lt)
        have R2 := Lib.hid (R1.out.below b1 R1.out.lt)
        clear b1 x0 x1 T1 R1
        obtain ⟨x0, x1⟩ := T2.out.cells
        go_wp2_with fail
        refine (EBS.out _ HB1.out).mono ?_
        rintro e w2 ⟨rfl, b2⟩
        have HE1 := Lib.hid (show MSt w w.heap.size (w.heap.size + 1) (.slice p1 ps.length c1) (.slice p2 ws.length c2) w2 from ⟨T2.out.below b2 T2.out.lt, HB1.out.trans (b2.mono HB1.out.size), R2.out.below b2 R2.out.lt⟩)
        have HD := Lib.hid HE1.out.drew
        clear b2 x0 x1 T2 R2 EA EBS
        obtain ⟨x0, x1⟩ := KC.out _ HE1
        go_wp2_with fail
        go_region_held3 (fun w' => w'.cell? ⟨w.heap.size, 0, none⟩ = some (.slice p1 ps.length c1) ∧ w'.cell? ⟨w.heap.size, 1, none⟩ = some (.slice p2 ws.length c2))
          (first | exact KC.out _ HD | exact KC.out _ (by assumption) | exact ⟨(far2 hgR).trans z0, (far2 hgR).trans z1⟩ | go_keep)
          (first
            | (go_at_call 70; (with_reducible refine (CW.out _ (by assumption)).mono ?_); rintro e w8 ⟨rfl, b8⟩; (have HE8 := Lib.hid (MSt.next (Hid.out (by assumption)) b8)); (try (have IV9 := Lib.hid ((Hid.out IV8).below b8 |>.more b8.size))); clear b8)
            | (go_at_call 74; (with_reducible refine (CO.out _ (by assumption)).mono ?_); rintro e w8 ⟨u8, rfl, o8, b8⟩; (have IV8 := Lib.hid (o8.intsV)); (have HE8 := Lib.hid (MSt.next (Hid.out (by assumption)) b8)); clear b8 o8)
            | (go_at_call 70; (with_reducible refine (CB.out _ _ (by assumption) (by assumption)).mono ?_); rintro e w8 ⟨rfl, b8⟩; (have HE8 := Lib.hid (MSt.next (Hid.out (by assumption)) b8)); clear b8)
            | (go_at_call 54; (with_reducible refine (RC.out _).mono ?_); rintro e w9 ⟨rfl, b9⟩; (have HE9 : Hid (MSt w w.heap.size (w.heap.size + 1) (.slice p1 ps.length c1) (.slice p2 ws.length c2) w9) := Lib.hid (MSt.next (Hid.out (by assumption)) b9)); (have HB9 := Lib.hid HE9.out.2.1); (obtain ⟨z0, z1⟩ := HE9.out.1.cells); (obtain ⟨c0, c1, f0, f1⟩ := HE9.out.2.2.cells); clear b9))
        all_goals
          go_wp2_with fail
          refine bodyPost_ret (v := .tuple #[.agg #[.int .i64 pn, .int .i64 pd], .bool true]) (by simp [results, Try.results35, go_sem, *]) rfl ⟨by rw [CV.out], ?_⟩
          exact (HB9.out.setCell (p := ⟨w.heap.size + 1, 0, none⟩) (by simp) _).setCell (p := ⟨w.heap.size + 1, 1, none⟩) (by simp) _
      · have CV : Hid (givV ps ws a b = zeroP) := Lib.hid (by unfold givV givB; rw [decide_eq_false hb1]; simp)
        have nb0 : ((b.length : Int) == 0) = true := by rw [beq_iff_eq]; omega
        go_enter Try.func35, Try.ntmps35
        go_wp2_with fail
        rw [← hwa]
        clear hwa
        refine (EA.out _ HBA.out).mono ?_
        rintro e w1 ⟨rfl, b1⟩
        have HB1 := Lib.hid (HBA.out.trans (b1.mono HBA.out.size))
        have T2 := Lib.hid (T1.out.below b1 T1.out.lt)
        have R2 := Lib.hid (R1.out.below b1 R1.out.lt)
        clear b1 x0 x1
        obtain ⟨x0, x1⟩ := T2.out.cells
        go_wp2_with fail
        refine (EBS.out _ HB1.out).mono ?_
        rintro e w2 ⟨rfl, b2⟩
        have HB2 := Lib.hid (HB1.out.trans (b2.mono HB1.out.size))
        obtain ⟨c0, c1, f0, f1⟩ := (R2.out.below b2 R2.out.lt).cells
        clear b2 x0 x1
        go_wp2_with fail
        refine bodyPost_ret (v := .tuple #[.agg #[.int .i64 0, .int .i64 0], .bool false]) (by simp [results, Try.results35, go_sem, c0, c1]) rfl ⟨by rw [CV.out]; rfl, ?_⟩
        exact (HB2.out.setCell (p := ⟨w.heap.size + 1, 0, none⟩) (by simp) _).setCell (p := ⟨w.heap.size + 1, 1, none⟩) (by simp) _
end Go.Proofs.Ytfnnlkbecnjloab
