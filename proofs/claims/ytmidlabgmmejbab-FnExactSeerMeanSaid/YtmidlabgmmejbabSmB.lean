/- BndS in one text. -/
import Derived.Test.YtmidlabgmmejbabSmA
namespace Go.Proofs.Ytmidlabgmmejbab
open Go.RowKit
set_option linter.unusedVariables false
set_option maxRecDepth 100000 in
set_option maxHeartbeats 8000000 in
theorem bbS (ps ws zs ns : List Int) (v u n : Value) (w : World) (hn1 : zs.length ≤ 1048576) (hn2 : ns.length ≤ 1048576) (h : TreeV w w.heap.size v ps ws) (hu : IntsV w w.heap.size u zs) (hv : IntsV w w.heap.size n ns) :
    Calls Try.prog 55 #[v, u, n] w (Gives (bbV ps ws zs ns) w) := by
  have P1 := Lib.hid (fun w' (hb : Below w.heap.size w w') => pays4 ps ws zs v u w' hn1 (h.boxed hb) ((hu.below hb).more hb.size))
  have P2 := Lib.hid (fun w' (hb : Below w.heap.size w w') => pays4 ps ws ns v n w' hn2 (h.boxed hb) ((hv.below hb).more hb.size))
  have P3 := Lib.hid (fun (qr : Proc ps ws ns) w' (hb : Below w.heap.size w w') => bal4S ps ws ns v n w' qr (h.boxed hb) ((hv.below hb).more hb.size))
  have P4 := Lib.hid (fun (pr : Proc ps ws zs) (qr : Proc ps ws ns) w' (hb : Below w.heap.size w w') => boundS ps ws zs ns v u n w' pr qr (h.boxed hb) ((hu.below hb).more hb.size) ((hv.below hb).more hb.size))
  have BO := Lib.hid (show bbOk ps ws zs ns = (procB ps ws zs && (procB ps ws ns && steB ps ws ns true)) from rfl)
  have BV := Lib.hid (show bbV ps ws zs ns = if bbOk ps ws zs ns = true then .tuple #[.agg #[.int .i64 (bbN ps ws zs ns), .int .i64 (bbD ps ws zs ns)], .bool true] else zeroP from rfl)
  have PZ := Lib.hid (fun (h : procB ps ws zs = true) => procB_iff.1 h)
  have PN := Lib.hid (fun (h : procB ps ws ns = true) => procB_iff.1 h)
  obtain ⟨p1, c1, p2, c2, rfl⟩ := h.shape
  obtain ⟨q, d, rfl, _⟩ := hu
  obtain ⟨q2, d2, rfl, _⟩ := hv
  clear h
  generalize bbV ps ws zs ns = V at *
  generalize bbN ps ws zs ns = N at *
  generalize bbD ps ws zs ns = D at *
  generalize steB ps ws ns true = st at *
  obtain ⟨wa, hwa⟩ : ∃ wa, wa = (w.alloc (.cells #[.slice p1 ps.length c1, .slice p2 ws.length c2] 37)).alloc (.cells #[.int .i64 0, .int .i64 0] 57) := ⟨_, rfl⟩
  have B1 : Below w.heap.size w wa := by rw [hwa]; exact ((Below.refl w.heap.size w).alloc (Nat.le_refl _) _).alloc (by simp) _
  obtain ⟨k0, k1⟩ := alloc_two w (.cells #[.slice p1 ps.length c1, .slice p2 ws.length c2] 37) (.cells #[.int .i64 0, .int .i64 0] 57)
  rw [← hwa] at k0 k1
  have T1 := Lib.hid (show TBox wa w.heap.size (.slice p1 ps.length c1) (.slice p2 ws.length c2) from k0)
  have R1 := Lib.hid (show QBox wa (w.heap.size + 1) 0 0 from k1)
  have HBA := Lib.hid B1
  clear B1 k0 k1
  obtain ⟨x0, x1⟩ := T1.out.cells
  cases hz : procB ps ws zs
  · have RV := Lib.hid (show V = zeroP by rw [BV.out, BO.out, hz]; rfl)
    rw [hz] at P1
    rw [RV.out]
    clear hz PZ PN BV BO
    go_enter Try.func55, Try.ntmps55
    go_wp2_with fail
    rw [← hwa]
    clear hwa
    refine (P1.out _ HBA.out).mono ?_
    rintro e w1 ⟨rfl, b1⟩
    have HB1 := Lib.hid (HBA.out.trans (b1.mono HBA.out.size))
    obtain ⟨⟨r0, r1⟩, f0, f1⟩ := (R1.out.below b1 R1.out.lt).cells
    clear b1
    go_wp2_with fail
    refine bodyPost_ret (v := .tuple #[.agg #[.int .i64 0, .int .i64 0], .bool false]) (by simp [results, Try.results55, go_sem, r0, r1]) rfl ⟨rfl, ?_⟩
    exact (HB1.out.setCell (p := ⟨w.heap.size + 1, 0, none⟩) (by simp) _).setCell (p := ⟨w.heap.size + 1, 1, none⟩) (by simp) _
  cases hy : procB ps ws ns
  · have RV := Lib.hid (show V = zeroP by rw [BV.out, BO.out, hz, hy]; rfl)
    rw [hz] at P1
    rw [hy] at P2
    rw [RV.out]
    clear hz hy PZ PN BV BO
    go_enter Try.func55, Try.ntmps55
    go_wp2_with fail
    rw [← hwa]
    clear hwa
    refine (P1.out _ HBA.out).mono ?_
    rintro e w1 ⟨rfl, b1⟩
    have HB1 := Lib.hid (HBA.out.trans (b1.mono HBA.out.size))
    have T2 := Lib.hid (T1.out.below b1 T1.out.lt)
    have R2 := Lib.hid (R1.out.below b1 R1.out.lt)
    clear b1 x0 x1
    obtain ⟨x0, x1⟩ := T2.out.cells
    go_wp2_with fail
    refine (P2.out _ HB1.out).mono ?_
    rintro e w2 ⟨rfl, b2⟩
    have HB2 := Lib.hid (HB1.out.trans (b2.mono HB1.out.size))
    obtain ⟨⟨r0, r1⟩, f0, f1⟩ := (R2.out.below b2 R2.out.lt).cells
    clear b2
    go_wp2_with fail
    refine bodyPost_ret (v := .tuple #[.agg #[.int .i64 0, .int .i64 0], .bool false]) (by simp [results, Try.results55, go_sem, r0, r1]) rfl ⟨rfl, ?_⟩
    exact (HB2.out.setCell (p := ⟨w.heap.size + 1, 0, none⟩) (by simp) _).setCell (p := ⟨w.heap.size + 1, 1, none⟩) (by simp) _
  have P3' := Lib.hid (P3.out (PN.out hy))
  have P4' := Lib.hid (P4.out (PZ.out hz) (PN.out hy))
  clear P3 P4
  rw [hz] at P1
  rw [hy] at P2
  cases st
  · have RV := Lib.hid (show V = zeroP by rw [BV.out, BO.out, hz, hy]; rfl)
    rw [RV.out]
    clear hz hy PZ PN BV BO P4'
    go_enter Try.func55, Try.ntmps55
    go_wp2_with fail
    rw [← hwa]
    clear hwa
    refine (P1.out _ HBA.out).mono ?_
    rintro e w1 ⟨rfl, b1⟩
    have HB1 := Lib.hid (HBA.out.trans (b1.mono HBA.out.size))
    have T2 := Lib.hid (T1.out.below b1 T1.out.lt)
    have R2 := Lib.hid (R1.out.below b1 R1.out.lt)
    clear b1 x0 x1
    obtain ⟨x0, x1⟩ := T2.out.cells
    go_wp2_with fail
    refine (P2.out _ HB1.out).mono ?_
    rintro e w2 ⟨rfl, b2⟩
    have HB2 := Lib.hid (HB1.out.trans (b2.mono HB1.out.size))
    have T3 := Lib.hid (T2.out.below b2 T2.out.lt)
    have R3 := Lib.hid (R2.out.below b2 R2.out.lt)
    clear b2 x0 x1
    obtain ⟨x0, x1⟩ := T3.out.cells
    go_wp2_with fail
    refine (P3'.out _ HB2.out).mono ?_
    rintro e w3 ⟨rfl, b3⟩
    have HB3 := Lib.hid (HB2.out.trans (b3.mono HB2.out.size))
    obtain ⟨⟨r0, r1⟩, f0, f1⟩ := (R3.out.below b3 R3.out.lt).cells
    clear b3
    go_wp2_with fail
    refine bodyPost_ret (v := .tuple #[.agg #[.int .i64 0, .int .i64 0], .bool false]) (by simp [results, Try.results55, go_sem, r0, r1]) rfl ⟨rfl, ?_⟩
    exact (HB3.out.setCell (p := ⟨w.heap.size + 1, 0, none⟩) (by simp) _).setCell (p := ⟨w.heap.size + 1, 1, none⟩) (by simp) _
  · have RV := Lib.hid (show V = .tuple #[.agg #[.int .i64 N, .int .i64 D], .bool true] by rw [BV.out, BO.out, hz, hy]; rfl)
    rw [RV.out]
    clear hz hy PZ PN BV BO
    go_enter Try.func55, Try.ntmps55
    go_wp2_with fail
    rw [← hwa]
    clear hwa
    refine (P1.out _ HBA.out).mono ?_
    rintro e w1 ⟨rfl, b1⟩
    have HB1 := Lib.hid (HBA.out.trans (b1.mono HBA.out.size))
    have T2 := Lib.hid (T1.out.below b1 T1.out.lt)
    have R2 := Lib.hid (R1.out.below b1 R1.out.lt)
    clear b1 x0 x1
    obtain ⟨x0, x1⟩ := T2.out.cells
    go_wp2_with fail
    refine (P2.out _ HB1.out).mono ?_
    rintro e w2 ⟨rfl, b2⟩
    have HB2 := Lib.hid (HB1.out.trans (b2.mono HB1.out.size))
    have T3 := Lib.hid (T2.out.below b2 T2.out.lt)
    have R3 := Lib.hid (R2.out.below b2 R2.out.lt)
    clear b2 x0 x1
    obtain ⟨x0, x1⟩ := T3.out.cells
    go_wp2_with fail
    refine (P3'.out _ HB2.out).mono ?_
    rintro e w3 ⟨rfl, b3⟩
    have HB3 := Lib.hid (HB2.out.trans (b3.mono HB2.out.size))
    have T4 := Lib.hid (T3.out.below b3 T3.out.lt)
    have R4 := Lib.hid (R3.out.below b3 R3.out.lt)
    clear b3 x0 x1
    obtain ⟨x0, x1⟩ := T4.out.cells
    go_wp2_with fail
    refine (P4'.out _ HB3.out).mono ?_
    rintro e w4 ⟨rfl, b4⟩
    have HB4 := Lib.hid (HB3.out.trans (b4.mono HB3.out.size))
    obtain ⟨⟨r0, r1⟩, f0, f1⟩ := (R4.out.below b4 R4.out.lt).cells
    clear b4
    go_wp2_with fail
    refine bodyPost_ret (v := .tuple #[.agg #[.int .i64 N, .int .i64 D], .bool true]) (by simp [results, Try.results55, go_sem, r0, r1]) rfl ⟨rfl, ?_⟩
    exact (HB4.out.setCell (p := ⟨w.heap.size + 1, 0, none⟩) (by simp) _).setCell (p := ⟨w.heap.size + 1, 1, none⟩) (by simp) _
set_option maxRecDepth 100000 in
set_option maxHeartbeats 4000000 in
theorem seerS (ps ws zs : List Int) (v u : Value) (w : World) (hn1 : zs.length ≤ 1048576) (h : TreeV w w.heap.size v ps ws) (hu : IntsV w w.heap.size u zs) :
    Calls Try.prog 48 #[v, u] w (Gives (seerV ps ws zs) w) := by
  have P1 := Lib.hid (fun w' (hb : Below w.heap.size w w') => pays4 ps ws zs v u w' hn1 (h.boxed hb) ((hu.below hb).more hb.size))
  have P4 := Lib.hid (fun (pr : Proc ps ws zs) w' n (hb : Below w.heap.size w w') (hn : IntsV w' w'.heap.size n (List.replicate zs.length 0)) => boundS ps ws zs (List.replicate zs.length 0) v u n w' pr (by rw [pr.len]; exact proc_zeros pr.good) (h.boxed hb) ((hu.below hb).more hb.size) hn)
  have SO := Lib.hid (seer_ok ps ws zs)
  have BV := Lib.hid (show seerV ps ws zs = if bbOk ps ws zs (List.replicate zs.length 0) = true then .tuple #[.agg #[.int .i64 (bbN ps ws zs (List.replicate zs.length 0)), .int .i64 (bbD ps ws zs (List.replicate zs.length 0))], .bool true] else zeroP from rfl)
  have PZ := Lib.hid (fun (h : procB ps ws zs = true) => procB_iff.1 h)
  obtain ⟨p1, c1, p2, c2, rfl⟩ := h.shape
  obtain ⟨q, d, rfl, _⟩ := hu
  clear h
  generalize seerV ps ws zs = V at *
  generalize bbN ps ws zs (List.replicate zs.length 0) = N at *
  generalize bbD ps ws zs (List.replicate zs.length 0) = D at *
  obtain ⟨wa, hwa⟩ : ∃ wa, wa = (w.alloc (.cells #[.slice p1 ps.length c1, .slice p2 ws.length c2] 37)).alloc (.cells #[.int .i64 0, .int .i64 0] 57) := ⟨_, rfl⟩
  have B1 : Below w.heap.size w wa := by rw [hwa]; exact ((Below.refl w.heap.size w).alloc (Nat.le_refl _) _).alloc (by simp) _
  obtain ⟨k0, k1⟩ := alloc_two w (.cells #[.slice p1 ps.length c1, .slice p2 ws.length c2] 37) (.cells #[.int .i64 0, .int .i64 0] 57)
  rw [← hwa] at k0 k1
  have T1 := Lib.hid (show TBox wa w.heap.size (.slice p1 ps.length c1) (.slice p2 ws.length c2) from k0)
  have R1 := Lib.hid (show QBox wa (w.heap.size + 1) 0 0 from k1)
  have HBA := Lib.hid B1
  clear B1 k0 k1
  obtain ⟨x0, x1⟩ := T1.out.cells
  cases hz : procB ps ws zs
  · have RV := Lib.hid (show V = zeroP by rw [BV.out, SO.out, hz]; rfl)
    rw [hz] at P1
    rw [RV.out]
    clear hz PZ BV SO
    go_enter Try.func48, Try.ntmps48
    go_wp2_with fail
    rw [← hwa]
    clear hwa
    refine (P1.out _ HBA.out).mono ?_
    rintro e w1 ⟨rfl, b1⟩
    have HB1 := Lib.hid (HBA.out.trans (b1.mono HBA.out.size))
    obtain ⟨⟨r0, r1⟩, f0, f1⟩ := (R1.out.below b1 R1.out.lt).cells
    clear b1
    go_wp2_with fail
    refine bodyPost_ret (v := .tuple #[.agg #[.int .i64 0, .int .i64 0], .bool false]) (by simp [results, Try.results48, go_sem, r0, r1]) rfl ⟨rfl, ?_⟩
    exact (HB1.out.setCell (p := ⟨w.heap.size + 1, 0, none⟩) (by simp) _).setCell (p := ⟨w.heap.size + 1, 1, none⟩) (by simp) _
  have RV := Lib.hid (show V = .tuple #[.agg #[.int .i64 N, .int .i64 D], .bool true] by rw [BV.out, SO.out, hz]; rfl)
  have P4' := Lib.hid (P4.out (PZ.out hz))
  rw [hz] at P1
  rw [RV.out]
  clear hz PZ BV SO P4
  obtain ⟨i0, hi, hz0, hz1, hz2⟩ := info_parts intInfo
  have MK : Hid (∃ mk : World → World, ∀ w0, (Instr.makeSlice 30 (.int .i64 (zs.length : Int)) (.int .i64 (zs.length : Int))).run Try.prog w0 = .ok (.slice (some ⟨w0.heap.size, 0, none⟩) zs.length zs.length) (mk w0) ∧ (mk w0).ownsRow 0 3 1 (.slice (some ⟨w0.heap.size, 0, none⟩) zs.length zs.length) zs.length (List.replicate zs.length (.int .i64 0)) ∧ w0.grownBy (mk w0) none) := Lib.hid (by
    have hx : ∀ w0 : World, ∃ w', (Instr.makeSlice 30 (.int .i64 (zs.length : Int)) (.int .i64 (zs.length : Int))).run Try.prog w0 = .ok (.slice (some ⟨w0.heap.size, 0, none⟩) zs.length zs.length) w' ∧ w'.ownsRow 0 3 1 (.slice (some ⟨w0.heap.size, 0, none⟩) zs.length zs.length) zs.length (List.replicate zs.length (.int .i64 0)) ∧ w0.grownBy w' none := fun w0 => by
      obtain ⟨w', h1, h2, h3⟩ := run_make_full (P := Try.prog) w0 0 30 3 i0 (.int .i64 0) 1 Try.underlying30 hi hz0 hz1 .i64 .i64 zs.length (by rw [hz2]; omega) (by unfold maxLen; omega) (Nat.zero_le _)
      rw [show (Value.int .i64 0).cells = #[Value.int .i64 0] from rfl, Nat.mul_one, toList_madeCells_one] at h2
      exact ⟨w', h1, h2, h3⟩
    exact ⟨fun w0 => Classical.choose (hx w0), fun w0 => Classical.choose_spec (hx w0)⟩)
  obtain ⟨mk, hmk⟩ := MK.out
  have RUN := fun w0 => (hmk w0).1
  have MKO := Lib.hid (fun w0 => (OwnV.made (lo := 0) (hmk w0).2.1).intsV)
  have MKB : Hid (∀ w0 : World, Below w0.heap.size w0 (mk w0)) := Lib.hid (fun w0 => (Below.refl _ _).grown (hmk w0).2.2 (Nat.le_refl _) (by simp))
  clear hmk MK hi hz0 hz1 hz2
  go_enter Try.func48, Try.ntmps48
  go_wp2_with fail
  rw [← hwa]
  clear hwa
  refine (P1.out _ HBA.out).mono ?_
  rintro e w1 ⟨rfl, b1⟩
  have HB1 := Lib.hid (HBA.out.trans (b1.mono HBA.out.size))
  have T2 := Lib.hid (T1.out.below b1 T1.out.lt)
  have R2 := Lib.hid (R1.out.below b1 R1.out.lt)
  clear b1 x0 x1 T1 R1
  have HD := Lib.hid (below_drew (Below.refl w1.heap.size w1))
  have HM := Lib.hid (HD.out.trans ((MKB.out w1.drew).mono HD.out.size))
  have KC : Hid (∀ w', Below w1.heap.size w1 w' → w'.cell? ⟨w.heap.size, 0, none⟩ = some (.slice p1 ps.length c1) ∧ w'.cell? ⟨w.heap.size, 1, none⟩ = some (.slice p2 ws.length c2)) := Lib.hid (fun w' hb => (T2.out.below hb T2.out.lt).cells)
  have BC := Lib.hid (show Calls Try.prog 95 #[.agg #[.slice p1 ps.length c1, .slice p2 ws.length c2], .slice q zs.length d, .slice (some ⟨w1.heap.size, 0, none⟩) zs.length zs.length] (mk w1.drew) _ from P4'.out (mk w1.drew) _ (HB1.out.trans (HM.out.mono HB1.out.size)) (MKO.out w1.drew))
  go_upto_region 3 with fail
  go_region_held3 (fun w' => w'.cell? ⟨w.heap.size, 0, none⟩ = some (.slice p1 ps.length c1) ∧ w'.cell? ⟨w.heap.size, 1, none⟩ = some (.slice p2 ws.length c2))
    (first | with_reducible exact KC.out _ HE7 | with_reducible exact KC.out _ HM.out | with_reducible exact KC.out _ HD.out | go_keep)
    (first
      | (go_at_call 95; (with_reducible refine BC.out.mono ?_); rintro e w7 ⟨rfl, b7⟩; (have HE7 := HM.out.trans (b7.mono HM.out.size)); (obtain ⟨⟨r0, r1⟩, f0, f1⟩ := (R2.out.below HE7 R2.out.lt).cells); clear b7))
  have HB7 := Lib.hid (HB1.out.trans (HE7.mono HB1.out.size))
  clear HE7
  go_wp2_with fail
  refine bodyPost_ret (v := .tuple #[.agg #[.int .i64 N, .int .i64 D], .bool true]) (by simp [results, Try.results48, go_sem, r0, r1]) rfl ⟨rfl, ?_⟩
  exact (HB7.out.setCell (p := ⟨w.heap.size + 1, 0, none⟩) (by simp) _).setCell (p := ⟨w.heap.size + 1, 1, none⟩) (by simp) _
end Go.Proofs.Ytmidlabgmmejbab
