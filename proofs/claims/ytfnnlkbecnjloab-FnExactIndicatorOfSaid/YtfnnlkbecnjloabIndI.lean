/- IndicatorOf in the program. -/
import Derived.Test.YtfnnlkbecnjloabIndM
namespace Go.Proofs.Ytfnnlkbecnjloab
open Go.RowKit
set_option linter.unusedVariables false
/-- What the row holds behind k rounds. -/
def indH (evs E : List Int) (k : Nat) : List Int := indL evs (E.take k) ++ List.replicate (E.length - k) 0
theorem indH_len (evs E : List Int) {k : Nat} (h : k ≤ E.length) : (indH evs E k).length = E.length := by simp [indH, indL_len]; omega
theorem indH_zero (evs E : List Int) : indH evs E 0 = List.replicate E.length 0 := by simp [indH, indL]
theorem indH_all (evs E : List Int) : indH evs E E.length = indL evs E := by simp [indH]
theorem indH_no {evs E : List Int} {k : Nat} (h : k < E.length) (hn : inL evs (E.getD k 0) = false) : indH evs E (k + 1) = indH evs E k := by
  unfold indH
  rw [indL_take h, hn, List.append_assoc]
  congr 1
  obtain ⟨m, hm⟩ : ∃ m, E.length - k = m + 1 := ⟨E.length - k - 1, by omega⟩
  rw [hm, show E.length - (k + 1) = m by omega]; rfl
theorem indH_yes {evs E : List Int} {k : Nat} (h : k < E.length) (hn : inL evs (E.getD k 0) = true) : (indH evs E k).set k 1 = indH evs E (k + 1) := by
  unfold indH
  have hl : (indL evs (E.take k)).length = k := by rw [indL_len, List.length_take]; omega
  rw [List.set_append_right _ _ (by omega), hl, Nat.sub_self, indL_take h, hn, List.append_assoc]
  congr 1
  obtain ⟨m, hm⟩ : ∃ m, E.length - k = m + 1 := ⟨E.length - k - 1, by omega⟩
  rw [hm, show E.length - (k + 1) = m by omega]; rfl
set_option maxRecDepth 100000 in
set_option maxHeartbeats 4000000 in
theorem indI (ps ws evs : List Int) (v u : Value) (w : World) (hl : evs.length ≤ 1048576) (h : TreeV w w.heap.size v ps ws) (hu : IntsV w w.heap.size u evs) :
    Calls Try.prog 42 #[v, u] w (NewIntsB (ifEv ps ws evs (indL evs (endsT ps))) (evB ps ws evs) w) := by
  have ES := Lib.hid (fun w' (hb : Below w.heap.size w w') => endSetI ps ws evs v u w' hl (h.boxed hb) ((hu.below hb).more hb.size))
  have EN := Lib.hid (fun w' (hb : Below w.heap.size w w') => endsI ps ws v w' (h.boxed hb))
  obtain ⟨p1, c1, p2, c2, rfl⟩ := h.shape
  obtain ⟨q, cq, rfl, _⟩ := hu
  clear h
  have B1 := (Below.refl w.heap.size w).alloc (Nat.le_refl _) (.cells #[.slice p1 ps.length c1, .slice p2 ws.length c2] 29)
  have T1 := Lib.hid (show TBox (w.alloc (.cells #[.slice p1 ps.length c1, .slice p2 ws.length c2] 29)) w.heap.size (.slice p1 ps.length c1) (.slice p2 ws.length c2) from alloc_heap w _)
  obtain ⟨wa, hwa⟩ : ∃ wa, wa = w.alloc (.cells #[.slice p1 ps.length c1, .slice p2 ws.length c2] 29) := ⟨_, rfl⟩
  rw [← hwa] at B1 T1
  have HBA := Lib.hid B1
  clear B1
  obtain ⟨x0, x1⟩ := T1.out.cells
  obtain ⟨i0, hi, hz0, hz1, hz2⟩ := info_parts intInfo
  go_enter Try.func42, Try.ntmps42
  go_wp2_with fail
  rw [← hwa]
  clear hwa
  refine (ES.out _ HBA.out).mono ?_
  rintro e w1 ⟨b1, ⟨hev, M, n, rfl, hM, hmap⟩ | ⟨hev, rfl⟩⟩
  · have EV := Lib.hid (evB_iff.1 hev)
    have HEV := Lib.hid hev
    have IG := Lib.hid (show ifEv ps ws evs (indL evs (endsT ps)) = indL evs (endsT ps) from by unfold ifEv; rw [hev]; rfl)
    have GT : goodT ps ws = true := (goodT_iff _ _).2 EV.out.good
    have IE : ifGood ps ws (endsT ps) = endsT ps := by unfold ifGood; rw [GT]; rfl
    rw [IE, GT] at EN
    have HB1 := Lib.hid (HBA.out.trans (b1.mono HBA.out.size))
    have HT1 := Lib.hid (T1.out.below b1 T1.out.lt)
    have HM1 := Lib.hid hmap
    have hn24 := EV.out.good.n24
    have hel := Nat.le_trans (ends_le ps) hn24
    have EP := ends_pos EV.out.good
    have EI := Lib.hid (fun i (hi : i < (endsT ps).length) => ends_in hi)
    obtain ⟨E, hE⟩ : ∃ E, E = endsT ps := ⟨_, rfl⟩
    have OF : Hid (indL evs E = indL evs (endsT ps)) := Lib.hid (by rw [hE])
    rw [← hE] at EN hel EI EP
    clear b1 hM hmap hev x0 x1 GT IE hE
    obtain ⟨x0, x1⟩ := HT1.out.cells
    go_wp2_with fail
    refine (EN.out _ HB1.out).mono ?_
    rintro e w2 ⟨ue, rfl, o2, b2⟩
    obtain ⟨g, ce, rfl, hg1, hg2⟩ := o2.shape EP
    have HB2 := Lib.hid (HB1.out.trans (b2.mono HB1.out.size))
    have HM2 := Lib.hid (HM1.out.next b2)
    have DC : Hid (∀ j, j < E.length → w2.cell? ⟨g, j, none⟩ = some (.int .i64 (E.getD j 0))) := Lib.hid (fun j hj => o2.cellGet hj)
    have G2 := Lib.hid hg2
    clear o2 b2 x0 x1 hg1 hg2 HM1 HT1
    have c1' : i0.bytes * E.length ≤ 281474976710656 := by rw [hz2]; omega
    have c2' : E.length ≤ maxLen := by unfold maxLen; omega
    go_wp2_with (at_make; refine wpList_make_full _ rfl _ _ 22 rfl w2.heap.size 3 i0 (.int .i64 0) 1 Try.underlying22 hi hz0 hz1 .i64 .i64 _ _ E.length rfl rfl rfl rfl c1' c2' (Nat.le_refl _) ?_; intro w3 hown hg3)
    have hown1 : w3.ownsRow w2.heap.size 3 1 (.slice (some ⟨w2.heap.size, 0, none⟩) E.length E.length) E.length (List.replicate E.length (.int .i64 0)) := by
      have h2 := hown
      rw [show (Value.int .i64 0).cells = #[Value.int .i64 0] from rfl, Nat.mul_one, toList_madeCells_one] at h2
      exact h2
    have hb3 : Below w2.heap.size w2 w3 := (Below.refl _ _).grown hg3 (Nat.le_refl _) (by simp)
    have O3 := Lib.hid (OwnV.made hown1)
    rw [← indH_zero evs E] at O3
    have HB3 := Lib.hid (HB2.out.trans (hb3.mono HB2.out.size))
    have HM3 := Lib.hid (HM2.out.next hb3)
    have D3 : Hid (∀ j, j < E.length → w3.cell? ⟨g, j, none⟩ = some (.int .i64 (E.getD j 0))) := Lib.hid (fun j hj => (hb3.cell (p := ⟨g, j, none⟩) G2.out).trans (DC.out j hj))
    have S2 := Lib.hid HB2.out.size
    obtain ⟨R, hR⟩ : ∃ R, R = w2.heap.size := ⟨_, rfl⟩
    have GR : Hid (g < R) := Lib.hid (by rw [hR]; exact G2.out)
    have WR : Hid (w.heap.size ≤ R) := Lib.hid (by rw [hR]; exact S2.out)
    have ML : Hid (M < R) := Lib.hid (by rw [hR]; exact HM2.out.lt)
    rw [← hR] at O3 ⊢
    clear hown hown1 hg3 hb3 c1' c2' HM2 DC HB2 hR S2 G2
    go_loopw [32] (fun i wr => ∃ k : Nat, k ≤ E.length ∧ i = .int .i64 k ∧ Hid (OwnV wr R wr.heap.size (.slice (some ⟨R, 0, none⟩) E.length E.length) (indH evs E k)) ∧ Hid (∀ j, j < E.length → wr.cell? ⟨g, j, none⟩ = some (.int .i64 (E.getD j 0))) ∧ Hid (MapB wr M n (inL evs)) ∧ Hid (Below w.heap.size w wr)) (fun i _ => E.length - (intOf i).toNat)
    case atStart => exact ⟨0, Nat.zero_le _, rfl, O3, D3, HM3, HB3⟩
    case round =>
      obtain ⟨k, hk, rfl, HO, HD, HM, HB⟩ := hrel
      clear O3 D3 HM3 HB3
      by_cases hlt : k < E.length
      · have hc := HD.out k hlt
        obtain ⟨xn, hxn, hxl, _⟩ := EI.out k hlt
        have YES := Lib.hid (indH_yes (evs := evs) hlt)
        have NO := Lib.hid (indH_no (evs := evs) hlt)
        have HL := Lib.hid (indH_len evs E hk)
        have i0' : (0 : Int) ≤ (k : Int) := by omega
        have i1 : (k : Int) < (E.length : Int) := by omega
        rw [← hxn] at hc YES NO
        clear hxn
        obtain ⟨t, ht⟩ : ∃ t, t = inL evs (xn : Int) := ⟨_, rfl⟩
        rw [← ht] at YES NO
        have HT := Lib.hid ht
        clear ht
        cases t
        · have F := Lib.hid (NO.out rfl)
          clear YES NO
          go_wp2_with (at_lookup; refine mapB_get _ rfl _ _ _ rfl Try.underlying73 M n (inL evs) rfl HM.out (xn : Int) rfl (inI64_nat (by omega)) ?_; rw [← HT.out])
          go_roundw
          case rel => exact ⟨k + 1, by omega, by go_num, by rw [F.out]; exact HO, HD, HM, HB⟩
          case measure => simp [intOf]; omega
        · have F := Lib.hid (YES.out rfl)
          have hcell := HO.out.cellGet (j := k) (by rw [HL.out]; exact hlt)
          have hfz := HO.out.frozenGet k
          have OS := Lib.hid (HO.out.setAt k (x := 1) (by unfold InI64; omega))
          rw [F.out] at OS
          have FB := Lib.hid (HB.out.setCell (p := ⟨R, k, none⟩) WR.out (.int .i64 1))
          have FM := Lib.hid (HM.out.set (g := R) (o := k) (v := .int .i64 1) (by have := ML.out; omega))
          have FD : Hid (∀ j, j < E.length → (wr.setCell ⟨R, k, none⟩ (.int .i64 1)).cell? ⟨g, j, none⟩ = some (.int .i64 (E.getD j 0))) := Lib.hid (fun j hj => by rw [World.cell?_setCell_other _ _ _ _ (by first | (simp; done) | (have := GR.out; simp; omega))]; exact HD.out j hj)
          have SZ := Lib.hid (show (wr.setCell ⟨R, k, none⟩ (.int .i64 1)).heap.size = wr.heap.size by simp [World.setCell])
          obtain ⟨old, hold⟩ : ∃ old, old = (indH evs E k).getD k 0 := ⟨_, rfl⟩
          rw [← hold] at hcell
          clear YES NO hold HL F
          go_wp2_with (at_lookup; refine mapB_get _ rfl _ _ _ rfl Try.underlying73 M n (inL evs) rfl HM.out (xn : Int) rfl (inI64_nat (by omega)) ?_; rw [← HT.out])
          go_roundw
          case rel => exact ⟨k + 1, by omega, by go_num, Lib.hid (by rw [SZ.out]; exact OS.out), FD, FM, FB⟩
          case measure => simp [intOf]; omega
      · have FIN : Hid (NewIntsB (indL evs (endsT ps)) true w (.returned (.tuple #[.slice (some ⟨R, 0, none⟩) E.length E.length, .bool true])) wr) := Lib.hid ⟨_, rfl, by
          have := HO.out.low (lo' := w.heap.size) WR.out
          rwa [show k = E.length by omega, indH_all, OF.out] at this, HB.out⟩
        clear HO
        go_wp2
        go_ret2
        rw [IG.out, HEV.out]
        exact FIN.out
  · have IG := Lib.hid (show ifEv ps ws evs (indL evs (endsT ps)) = [] from by unfold ifEv; rw [hev]; rfl)
    have HEV := Lib.hid hev
    have HB1 := Lib.hid (HBA.out.trans (b1.mono HBA.out.size))
    clear b1 hev x0 x1
    go_wp2_with fail
    go_ret2
    rw [IG.out, HEV.out]
    exact newInts_empty HB1.out
end Go.Proofs.Ytfnnlkbecnjloab
