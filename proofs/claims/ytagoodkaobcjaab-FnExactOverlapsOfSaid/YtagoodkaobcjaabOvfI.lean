/- The overlaps of two words: the program, the model. -/
import Derived.Test.YtagoodkaobcjaabWdsC
import Derived.Test.YtagoodkaobcjaabOvlN
namespace Go.Proofs.Ytagoodkaobcjaab
open Go.RowKit
set_option linter.unusedVariables false
theorem newInts_emptyO {w w1 : World} (hb : Below w.heap.size w w1) {g : Nat} (hg : g = w1.heap.size) : NewIntsB [] false w (.returned (.tuple #[.slice (some ⟨g, 0, none⟩) 0 0, .bool false])) (w1.alloc (.cells #[] 3)) := by
  subst hg; exact newInts_empty hb
def ovV (f : Int) (xs bs : List Int) : List Int := if (wdOk f xs && wdOk f bs) = true then ovL xs bs else []
set_option maxRecDepth 100000 in
set_option maxHeartbeats 8000000 in
theorem ovfC (f : Int) (xs bs : List Int) (v u : Value) (w : World) (hn : xs.length ≤ 1048576) (hm : bs.length ≤ 1048576) (h : IntsV w w.heap.size v xs) (k : IntsV w w.heap.size u bs) :
    Calls Try.prog 14 #[.int .i64 f, v, u] w (NewIntsB (ovV f xs bs) (wdOk f xs && wdOk f bs) w) := by
  have WC := Lib.hid (wordsC f xs bs v u w hn hm h k)
  obtain ⟨qq, cq, rfl, _⟩ := h
  obtain ⟨qr, cr, rfl, _⟩ := k
  obtain ⟨zl, z0, z1, z2, z3, z4, z5, z6, z7, SAL, SA⟩ := sh_form (wdZ f xs)
  obtain ⟨yl, y0, y1, y2, y3, y4, y5, y6, y7, SBL, SB⟩ := sh_form (wdZ f bs)
  unfold shV at WC
  rw [SA, SB] at WC
  cases hv : (wdOk f xs && wdOk f bs)
  · rw [hv] at WC
    rw [show ovV f xs bs = [] from if_neg (by rw [hv]; decide)]
    clear hv SA SAL SB SBL
    go_enter Try.func14, Try.ntmps14
    go_wp2_with fail
    refine WC.out.mono ?_
    rintro e w1 ⟨rfl, b1⟩
    have HB1 := Lib.hid b1
    clear b1
    go_wp2_with fail
    go_ret2
    exact newInts_emptyO ((HB1.out.alloc HB1.out.size _).alloc (Nat.le_trans HB1.out.size (by simp)) _) (by simp)
  · rw [hv] at WC
    rw [show ovV f xs bs = ovL xs bs from if_pos hv]
    obtain ⟨h1, h2⟩ := Bool.and_eq_true_iff.1 hv
    obtain ⟨_, ⟨l1, l2⟩, _⟩ := wd_bd h1
    obtain ⟨_, ⟨m1, m2⟩, _⟩ := wd_bd h2
    have IX := wd_in f xs
    have IY := wd_in f bs
    rw [show wdZ f xs = xs from if_pos h1] at SA IX
    rw [show wdZ f bs = bs from if_pos h2] at SB IY
    have OC : Hid (∀ w, Calls Try.prog 65 #[.agg #[.int .i64 zl, .int .i64 z0, .int .i64 z1, .int .i64 z2, .int .i64 z3, .int .i64 z4, .int .i64 z5, .int .i64 z6, .int .i64 z7], .agg #[.int .i64 yl, .int .i64 y0, .int .i64 y1, .int .i64 y2, .int .i64 y3, .int .i64 y4, .int .i64 y5, .int .i64 y6, .int .i64 y7]] w (NewInts (ovL xs bs) w)) := Lib.hid (fun w => by
      have h := overC xs bs w (by omega) (by omega) IX IY
      rw [show shV xs = .agg (shA xs) from rfl, show shV bs = .agg (shA bs) from rfl, SA, SB] at h
      exact h)
    clear hv h1 h2 SA SAL SB SBL IX IY l1 l2 m1 m2
    go_enter Try.func14, Try.ntmps14
    go_wp2_with fail
    refine WC.out.mono ?_
    rintro e w1 ⟨rfl, b1⟩
    have HB1 := Lib.hid ((b1.alloc b1.size (.cells #[.int .i64 zl, .int .i64 z0, .int .i64 z1, .int .i64 z2, .int .i64 z3, .int .i64 z4, .int .i64 z5, .int .i64 z6, .int .i64 z7] 71)).alloc (Nat.le_trans b1.size (by simp)) (.cells #[.int .i64 yl, .int .i64 y0, .int .i64 y1, .int .i64 y2, .int .i64 y3, .int .i64 y4, .int .i64 y5, .int .i64 y6, .int .i64 y7] 71))
    obtain ⟨w3, hw3⟩ : ∃ w3, w3 = (w1.alloc (.cells #[.int .i64 zl, .int .i64 z0, .int .i64 z1, .int .i64 z2, .int .i64 z3, .int .i64 z4, .int .i64 z5, .int .i64 z6, .int .i64 z7] 71)).alloc (.cells #[.int .i64 yl, .int .i64 y0, .int .i64 y1, .int .i64 y2, .int .i64 y3, .int .i64 y4, .int .i64 y5, .int .i64 y6, .int .i64 y7] 71) := ⟨_, rfl⟩
    have HS : w3.heap[w1.heap.size]? = some (.cells #[.int .i64 zl, .int .i64 z0, .int .i64 z1, .int .i64 z2, .int .i64 z3, .int .i64 z4, .int .i64 z5, .int .i64 z6, .int .i64 z7] 71 (0, 0)) := by rw [hw3]; exact ((((Below.refl _ _).alloc (Nat.le_refl _) (.cells #[.int .i64 yl, .int .i64 y0, .int .i64 y1, .int .i64 y2, .int .i64 y3, .int .i64 y4, .int .i64 y5, .int .i64 y6, .int .i64 y7] 71)).block w1.heap.size (by simp)).trans (alloc_heap w1 (.cells #[.int .i64 zl, .int .i64 z0, .int .i64 z1, .int .i64 z2, .int .i64 z3, .int .i64 z4, .int .i64 z5, .int .i64 z6, .int .i64 z7] 71)))
    have HT : w3.heap[w1.heap.size + 1]? = some (.cells #[.int .i64 yl, .int .i64 y0, .int .i64 y1, .int .i64 y2, .int .i64 y3, .int .i64 y4, .int .i64 y5, .int .i64 y6, .int .i64 y7] 71 (0, 0)) := by rw [hw3]; have := alloc_heap (w1.alloc (.cells #[.int .i64 zl, .int .i64 z0, .int .i64 z1, .int .i64 z2, .int .i64 z3, .int .i64 z4, .int .i64 z5, .int .i64 z6, .int .i64 z7] 71)) (.cells #[.int .i64 yl, .int .i64 y0, .int .i64 y1, .int .i64 y2, .int .i64 y3, .int .i64 y4, .int .i64 y5, .int .i64 y6, .int .i64 y7] 71); simpa using this
    obtain ⟨pc0, pc1, pc2, pc3, pc4, pc5, pc6, pc7, pc8⟩ := nine_cells HS
    obtain ⟨qc0, qc1, qc2, qc3, qc4, qc5, qc6, qc7, qc8⟩ := nine_cells HT
    rw [hw3] at pc0 pc1 pc2 pc3 pc4 pc5 pc6 pc7 pc8 qc0 qc1 qc2 qc3 qc4 qc5 qc6 qc7 qc8
    clear b1 HS HT hw3
    go_wp2_with fail
    refine (OC.out _).mono ?_
    rintro e w4 ⟨v1, rfl, o1, b1⟩
    have O1 := Lib.hid o1
    have B1 := Lib.hid b1
    clear b1 o1 pc0 pc1 pc2 pc3 pc4 pc5 pc6 pc7 pc8 qc0 qc1 qc2 qc3 qc4 qc5 qc6 qc7 qc8
    go_wp2_with fail
    go_ret2
    exact newInts_back HB1.out O1.out B1.out
set_option maxRecDepth 100000 in
set_option maxHeartbeats 8000000 in
theorem ovfS (f : Int) (xs bs : List Int) (v u : Value) (w : World) (hf : InI64 f) (hn : xs.length ≤ 1048576) (hm : bs.length ≤ 1048576) (h : IntsV w w.heap.size v xs) (k : IntsV w w.heap.size u bs) :
    Calls Try.prog 12 #[.int .i64 f, v, u] w (NewIntsB (ovV f xs bs) (wdOk f xs && wdOk f bs) w) := by
  have W1 := Lib.hid (wordS f xs v w.heap.size w hf hn h)
  have W2 := Lib.hid (wordS f bs u w.heap.size w hf hm k)
  obtain ⟨qq, cq, rfl, lq, SB0⟩ := SubB.intsV h
  obtain ⟨qr, cr, rfl, lr, SB1⟩ := SubB.intsV k
  clear h k
  cases h1 : wdOk f xs
  · rw [h1] at W1
    rw [show ovV f xs bs = [] from if_neg (by rw [h1, Bool.false_and]; decide), Bool.false_and]
    clear h1 SB0 SB1
    go_enter Try.func12, Try.ntmps12
    go_wp2_with fail
    refine W1.out.mono ?_
    rintro e w1 ⟨rfl, rfl⟩
    go_wp2_with fail
    go_ret2
    exact newInts_empty (Below.refl _ _)
  · rw [h1] at W1
    cases h2 : wdOk f bs
    · rw [h2] at W2
      rw [show ovV f xs bs = [] from if_neg (by rw [h1, h2]; decide), Bool.true_and]
      clear h1 h2 SB0 SB1
      go_enter Try.func12, Try.ntmps12
      go_wp2_with fail
      refine W1.out.mono ?_
      rintro e w1 ⟨rfl, rfl⟩
      go_wp2_with fail
      refine W2.out.mono ?_
      rintro e w1 ⟨rfl, rfl⟩
      go_wp2_with fail
      go_ret2
      exact newInts_empty (Below.refl _ _)
    · rw [h2] at W2
      rw [show ovV f xs bs = ovL xs bs from if_pos (by rw [h1, h2]; rfl), Bool.true_and]
      obtain ⟨_, ⟨l1, l2⟩, _⟩ := wd_bd h1
      obtain ⟨_, ⟨m1, m2⟩, _⟩ := wd_bd h2
      have OS := Lib.hid (overS xs bs qq qr cq cr w (by omega) (by omega) lq lr SB0 SB1)
      clear h1 h2 SB0 SB1 l1 l2 m1 m2
      go_enter Try.func12, Try.ntmps12
      go_wp2_with fail
      refine W1.out.mono ?_
      rintro e w1 ⟨rfl, rfl⟩
      go_wp2_with fail
      refine W2.out.mono ?_
      rintro e w1 ⟨rfl, rfl⟩
      go_wp2_with fail
      refine OS.out.mono ?_
      rintro e w4 ⟨v1, rfl, o1, b1⟩
      have O1 := Lib.hid o1
      have B1 := Lib.hid b1
      clear b1 o1
      go_wp2_with fail
      go_ret2
      exact newInts_back (Below.refl _ _) O1.out B1.out
theorem ovV_len (f : Int) (xs bs : List Int) : (ovV f xs bs).length ≤ 6 := by
  unfold ovV
  split
  · rename_i h
    obtain ⟨h1, h2⟩ := Bool.and_eq_true_iff.1 h
    obtain ⟨_, ⟨l1, l2⟩, _⟩ := wd_bd h1
    have := ovK_len xs bs (min xs.length bs.length)
    unfold ovL
    omega
  · simp
end Go.Proofs.Ytagoodkaobcjaab
