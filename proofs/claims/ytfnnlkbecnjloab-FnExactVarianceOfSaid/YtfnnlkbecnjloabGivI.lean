/- Chances of an event, given another one, in the program. -/
import Derived.Test.YtfnnlkbecnjloabEvD
namespace Go.Proofs.Ytfnnlkbecnjloab
open Go.RowKit
set_option linter.unusedVariables false
theorem pickS_nonneg {ws l : List Int} (h : ∀ z ∈ l, 0 ≤ ws.getD z.toNat 0) : 0 ≤ pickS ws l := by
  unfold pickS
  induction l with
  | nil => simp
  | cons a l ih => simp only [List.map_cons, List.sum_cons]; have := h a (by simp); have := ih (fun z hz => h z (by simp [hz])); omega
theorem Ev.heavy_pos {ps ws evs : List Int} (e : Ev ps ws evs) (hne : 0 < evs.length) : 0 < heavyT ps ws (fun x => inL evs (x : Int)) := by
  rw [← e.heavy]
  have h0 := e.pos 0 hne
  match evs, hne with
  | a :: l, _ =>
    have h1 := pickS_nonneg (ws := ws) (l := l) (fun z hz => by
      obtain ⟨i, hi, rfl⟩ := mem_getD hz
      have := e.pos (i + 1) (by simp; omega)
      have h2 : (a :: l).getD (i + 1) 0 = l.getD i 0 := rfl
      rw [h2] at this; omega)
    have h3 : pickS ws (a :: l) = ws.getD a.toNat 0 + pickS ws l := by simp [pickS]
    have h4 : (a :: l).getD 0 0 = a := rfl
    rw [h4] at h0
    omega
/-- What ChanceGiven returns. -/
def givB (ps ws a b : List Int) : Bool := evB ps ws a && (evB ps ws b && decide (0 < b.length))
def givV (ps ws a b : List Int) : Value := if givB ps ws a b = true then .tuple #[.agg #[.int .i64 (cutN (heavyT ps ws (fun x => inL a (x : Int) && inL b (x : Int))) (heavyT ps ws (fun x => inL b (x : Int)))), .int .i64 (cutD (heavyT ps ws (fun x => inL a (x : Int) && inL b (x : Int))) (heavyT ps ws (fun x => inL b (x : Int))))], .bool true] else zeroP
theorem givV_form (ps ws a b : List Int) : ∃ p q ok, givV ps ws a b = .tuple #[.agg #[.int .i64 p, .int .i64 q], .bool ok] := by
  unfold givV zeroP
  split <;> exact ⟨_, _, _, rfl⟩
set_option maxRecDepth 100000 in
set_option maxHeartbeats 4000000 in
theorem givI (ps ws a b : List Int) (v ua ub : Value) (w : World) (hla : a.length ≤ 1048576) (hlb : b.length ≤ 1048576) (h : TreeV w w.heap.size v ps ws) (ha : IntsV w w.heap.size ua a) (hb0 : IntsV w w.heap.size ub b) :
    Calls Try.prog 36 #[v, ua, ub] w (Gives (givV ps ws a b) w) := by
  have TV := Lib.hid h
  have AV := Lib.hid ha
  have BV := Lib.hid hb0
  have EA := Lib.hid (fun w' (hb : Below w.heap.size w w') => endSetI ps ws a v ua w' hla (h.boxed hb) ((ha.below hb).more hb.size))
  have EBS := Lib.hid (fun w' (hb : Below w.heap.size w w') => endSetI ps ws b v ub w' hlb (h.boxed hb) ((hb0.below hb).more hb.size))
  obtain ⟨p1, c1, p2, c2, rfl⟩ := h.shape
  obtain ⟨qa, da, rfl, _⟩ := ha
  obtain ⟨qb, db, rfl, _⟩ := hb0
  clear h
  have B1 := ((Below.refl w.heap.size w).alloc (Nat.le_refl _) (.cells #[.slice p1 ps.length c1, .slice p2 ws.length c2] 29)).alloc (by simp) (.cells #[.int .i64 0, .int .i64 0] 26)
  have K0 := alloc_two w (.cells #[.slice p1 ps.length c1, .slice p2 ws.length c2] 29) (.cells #[.int .i64 0, .int .i64 0] 26)
  obtain ⟨wa, hwa⟩ : ∃ wa, wa = (w.alloc (.cells #[.slice p1 ps.length c1, .slice p2 ws.length c2] 29)).alloc (.cells #[.int .i64 0, .int .i64 0] 26) := ⟨_, rfl⟩
  rw [← hwa] at B1 K0
  have T1 := Lib.hid (show TBox wa w.heap.size (.slice p1 ps.length c1) (.slice p2 ws.length c2) from K0.1)
  have R1 := Lib.hid (show PBox wa (w.heap.size + 1) 0 0 from K0.2)
  have HBA := Lib.hid B1
  clear K0 B1
  obtain ⟨x0, x1⟩ := T1.out.cells
  go_enter Try.func36, Try.ntmps36
  go_wp2_with fail
  rw [← hwa]
  clear hwa
  refine (EA.out _ HBA.out).mono ?_
  rintro e w1 ⟨b1, hA⟩
  have HB1 := Lib.hid (HBA.out.trans (b1.mono HBA.out.size))
  have T2 := Lib.hid (T1.out.below b1 T1.out.lt)
  have R2 := Lib.hid (R1.out.below b1 R1.out.lt)
  clear b1 x0 x1 T1 R1
  obtain ⟨x0, x1⟩ := T2.out.cells
  rcases hA with ⟨hevA, Ma, na, rfl, hMa, hmapA⟩ | ⟨hevA, rfl⟩
  · have HMA := Lib.hid hmapA
    have VA := Lib.hid hevA
    clear hMa hmapA hevA
    go_wp2_with fail
    refine (EBS.out _ HB1.out).mono ?_
    rintro e w2 ⟨b2, hB⟩
    have HB2 := Lib.hid (HB1.out.trans (b2.mono HB1.out.size))
    have T3 := Lib.hid (T2.out.below b2 T2.out.lt)
    have R3 := Lib.hid (R2.out.below b2 R2.out.lt)
    have HMA2 := Lib.hid (HMA.out.next b2)
    clear b2 x0 x1 T2 R2 HMA
    obtain ⟨x0, x1⟩ := T3.out.cells
    rcases hB with ⟨hevB, Mb, nb, rfl, hMb, hmapB⟩ | ⟨hevB, rfl⟩
    · have HMB := Lib.hid hmapB
      have VB := Lib.hid hevB
      clear hMb hmapB hevB
      by_cases hb1 : 0 < b.length
      · have EAV := Lib.hid (evB_iff.1 VA.out)
        have EB := Lib.hid (evB_iff.1 VB.out)
        have nb0 : ((b.length : Int) == 0) = false := by rw [beq_eq_false_iff_ne]; omega
        have HB1P := Lib.hid hb1
        have HE1 := Lib.hid (show ESt w w.heap.size (w.heap.size + 1) Ma na (inL a) Mb nb (inL b) (.slice p1 ps.length c1) (.slice p2 ws.length c2) w2 from ⟨T3.out, ⟨HMA2.out, HMB.out⟩, HB2.out, R3.out⟩)
        have CV : Hid (givV ps ws a b = keptV (cutN (heavyT ps ws (fun x => inL a (x : Int) && inL b (x : Int))) (heavyT ps ws (fun x => inL b (x : Int)))) (cutD (heavyT ps ws (fun x => inL a (x : Int) && inL b (x : Int))) (heavyT ps ws (fun x => inL b (x : Int))))) := Lib.hid (by
          unfold givV givB
          rw [if_pos (by rw [VA.out, VB.out, decide_eq_true hb1]; rfl), kept_small (by have := heavy_bd EB.out.good (fun x => inL a (x : Int) && inL b (x : Int)); omega) (by have := EB.out.heavy_pos hb1; have := heavy_bd EB.out.good (fun x => inL b (x : Int)); omega)])
        have CW : Hid (∀ w', Hid (ESt w w.heap.size (w.heap.size + 1) Ma na (inL a) Mb nb (inL b) (.slice p1 ps.length c1) (.slice p2 ws.length c2) w') → Calls Try.prog 72 #[.agg #[.slice p1 ps.length c1, .slice p2 ws.length c2], .map (some Mb)] w' (Gives (.int .i64 (heavyT ps ws (fun x => inL b (x : Int)))) w')) := Lib.hid (fun w' he => wtI ps ws _ Mb nb (inL b) w' EB.out.good (TV.out.boxed he.out.2.2.1) he.out.2.1.2)
        have CA : Hid (∀ w', Hid (ESt w w.heap.size (w.heap.size + 1) Ma na (inL a) Mb nb (inL b) (.slice p1 ps.length c1) (.slice p2 ws.length c2) w') → Calls Try.prog 75 #[.agg #[.slice p1 ps.length c1, .slice p2 ws.length c2], .map (some Ma), .map (some Mb)] w' (Gives (.int .i64 (heavyT ps ws (fun x => inL a (x : Int) && inL b (x : Int)))) w')) := Lib.hid (fun w' he => wtBothI ps ws _ Ma na Mb nb (inL a) (inL b) w' EB.out.good (TV.out.boxed he.out.2.2.1) he.out.2.1.1 he.out.2.1.2)
        have RC := Lib.hid (fun w' => reduceI_pos (heavyT ps ws (fun x => inL a (x : Int) && inL b (x : Int))) (heavyT ps ws (fun x => inL b (x : Int))) w' (by have := heavy_bd EB.out.good (fun x => inL a (x : Int) && inL b (x : Int)); omega) (by have := EB.out.heavy_pos HB1P.out; have := heavy_bd EB.out.good (fun x => inL b (x : Int)); omega))
        obtain ⟨hab, hhab⟩ : ∃ ha, ha = heavyT ps ws (fun x => inL a (x : Int) && inL b (x : Int)) := ⟨_, rfl⟩
        obtain ⟨hbb, hhbb⟩ : ∃ ha, ha = heavyT ps ws (fun x => inL b (x : Int)) := ⟨_, rfl⟩
        obtain ⟨pn, pd, ok, hK⟩ := keptV_form (cutN hab hbb) (cutD hab hbb)
        rw [← hhab] at CA RC CV
        rw [← hhbb] at CW RC CV
        rw [hK] at RC CV
        have KC : Hid (∀ w', Hid (ESt w w.heap.size (w.heap.size + 1) Ma na (inL a) Mb nb (inL b) (.slice p1 ps.length c1) (.slice p2 ws.length c2) w') → w'.cell? ⟨w.heap.size, 0, none⟩ = some (.slice p1 ps.length c1) ∧ w'.cell? ⟨w.heap.size, 1, none⟩ = some (.slice p2 ws.length c2)) := Lib.hid (fun w' he => he.out.1.cells)
        have hgR : w.heap.size ≠ w.heap.size + 1 := by omega
        have HD := Lib.hid HE1.out.drew
        clear x0 x1 hhab hhbb hK T3 R3 hb1
        obtain ⟨x0, x1⟩ := KC.out _ HE1
        go_wp2_with fail
        go_region_held3 (fun w' => w'.cell? ⟨w.heap.size, 0, none⟩ = some (.slice p1 ps.length c1) ∧ w'.cell? ⟨w.heap.size, 1, none⟩ = some (.slice p2 ws.length c2))
          (first | exact KC.out _ HD | exact KC.out _ (by assumption) | exact ⟨(far2 hgR).trans z0, (far2 hgR).trans z1⟩ | go_keep)
          (first
            | (go_at_call 72; (with_reducible refine (CW.out _ (by assumption)).mono ?_); rintro e w8 ⟨rfl, b8⟩; (have HE8 := Lib.hid (ESt.next (Hid.out (by assumption)) b8)); clear b8)
            | (go_at_call 75; (with_reducible refine (CA.out _ (by assumption)).mono ?_); rintro e w8 ⟨rfl, b8⟩; (have HE8 := Lib.hid (ESt.next (Hid.out (by assumption)) b8)); clear b8)
            | (go_at_call 57; (with_reducible refine (RC.out _).mono ?_); rintro e w9 ⟨rfl, b9⟩; (have HE9 : Hid (ESt w w.heap.size (w.heap.size + 1) Ma na (inL a) Mb nb (inL b) (.slice p1 ps.length c1) (.slice p2 ws.length c2) w9) := Lib.hid (ESt.next (Hid.out (by assumption)) b9)); (have HB9 := Lib.hid HE9.out.2.2.1); (obtain ⟨z0, z1⟩ := HE9.out.1.cells); (obtain ⟨c0, c1, f0, f1⟩ := HE9.out.2.2.2.cells); clear b9))
        all_goals
          go_wp2_with fail
          refine bodyPost_ret (v := .tuple #[.agg #[.int .i64 pn, .int .i64 pd], .bool ok]) (by simp [results, Try.results36, go_sem, *]) rfl ⟨by rw [CV.out], ?_⟩
          exact (HB9.out.setCell (p := ⟨w.heap.size + 1, 0, none⟩) (by simp) _).setCell (p := ⟨w.heap.size + 1, 1, none⟩) (by simp) _
      · have CV : Hid (givV ps ws a b = zeroP) := Lib.hid (by unfold givV givB; rw [decide_eq_false hb1]; simp)
        have nb0 : ((b.length : Int) == 0) = true := by rw [beq_iff_eq]; omega
        obtain ⟨c0, c1, f0, f1⟩ := R3.out.cells
        clear x0 x1
        go_wp2_with fail
        refine bodyPost_ret (v := .tuple #[.agg #[.int .i64 0, .int .i64 0], .bool false]) (by simp [results, Try.results36, go_sem, c0, c1]) rfl ⟨by rw [CV.out]; rfl, ?_⟩
        exact (HB2.out.setCell (p := ⟨w.heap.size + 1, 0, none⟩) (by simp) _).setCell (p := ⟨w.heap.size + 1, 1, none⟩) (by simp) _
    · have CV : Hid (givV ps ws a b = zeroP) := Lib.hid (by unfold givV givB; rw [hevB]; simp)
      obtain ⟨c0, c1, f0, f1⟩ := R3.out.cells
      clear hevB x0 x1
      go_wp2_with fail
      refine bodyPost_ret (v := .tuple #[.agg #[.int .i64 0, .int .i64 0], .bool false]) (by simp [results, Try.results36, go_sem, c0, c1]) rfl ⟨by rw [CV.out]; rfl, ?_⟩
      exact (HB2.out.setCell (p := ⟨w.heap.size + 1, 0, none⟩) (by simp) _).setCell (p := ⟨w.heap.size + 1, 1, none⟩) (by simp) _
  · have CV : Hid (givV ps ws a b = zeroP) := Lib.hid (by unfold givV givB; rw [hevA]; simp)
    clear hevA
    go_wp2_with fail
    refine (EBS.out _ HB1.out).mono ?_
    rintro e w2 ⟨b2, hB⟩
    have HB2 := Lib.hid (HB1.out.trans (b2.mono HB1.out.size))
    obtain ⟨c0, c1, f0, f1⟩ := (R2.out.below b2 R2.out.lt).cells
    clear b2 x0 x1 T2 R2
    rcases hB with ⟨_, Mb, nb, rfl, _, _⟩ | ⟨_, rfl⟩
    · go_wp2_with fail
      refine bodyPost_ret (v := .tuple #[.agg #[.int .i64 0, .int .i64 0], .bool false]) (by simp [results, Try.results36, go_sem, c0, c1]) rfl ⟨by rw [CV.out]; rfl, ?_⟩
      exact (HB2.out.setCell (p := ⟨w.heap.size + 1, 0, none⟩) (by simp) _).setCell (p := ⟨w.heap.size + 1, 1, none⟩) (by simp) _
    · go_wp2_with fail
      refine bodyPost_ret (v := .tuple #[.agg #[.int .i64 0, .int .i64 0], .bool false]) (by simp [results, Try.results36, go_sem, c0, c1]) rfl ⟨by rw [CV.out]; rfl, ?_⟩
      exact (HB2.out.setCell (p := ⟨w.heap.size + 1, 0, none⟩) (by simp) _).setCell (p := ⟨w.heap.size + 1, 1, none⟩) (by simp) _
end Go.Proofs.Ytfnnlkbecnjloab
