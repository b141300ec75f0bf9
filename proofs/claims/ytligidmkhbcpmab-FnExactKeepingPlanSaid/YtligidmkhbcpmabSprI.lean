/- Spreads in the program: whether a list is one, whether two are alike. -/
import Derived.Test.YtligidmkhbcpmabCtnI
import Derived.Test.YtligidmkhbcpmabSprV
namespace Go.Proofs.Ytligidmkhbcpmab
open Go.RowKit
set_option linter.unusedVariables false
theorem bl_up' {w a b : World} (h : Hid (Below w.heap.size w a)) (k : Below a.heap.size a b) : Hid (Below w.heap.size w b) := Lib.hid (h.out.trans (k.mono h.out.size))
set_option maxHeartbeats 2000000 in
theorem isSpreadY (zs : List Int) (v : Value) (w : World) (hn : zs.length ≤ 1048576) (h : IntsV w w.heap.size v zs) :
    Calls Try.prog 68 #[v] w (Gives (.bool (sprB zs)) w) := by
  have I8 := Lib.hid (fun w => fromY (zs.length : Int) 1 8 w)
  by_cases h8 : 1 ≤ zs.length ∧ zs.length ≤ 8
  · have E8 : decide ((1 : Int) ≤ (zs.length : Int) ∧ (zs.length : Int) ≤ 8) = true := by rw [decide_eq_true_iff]; omega
    rw [E8] at I8
    have AF := Lib.hid (fun w' (hb : Below w.heap.size w w') => areFromY zs v 0 40 w' hn ((h.below hb).more hb.size))
    cases hf : fromB 0 40 zs
    · have R := Lib.hid (show sprB zs = false by unfold sprB; rw [hf, Bool.false_and, Bool.and_false])
      rw [hf] at AF
      obtain ⟨q, cq, rfl, _⟩ := h
      clear hf h8 E8
      go_enter Try.func68, Try.ntmps68
      go_wp2_with fail
      refine (I8.out _).mono ?_
      rintro e w1 ⟨rfl, rfl⟩
      go_wp2_with fail
      refine (AF.out _ (Below.refl _ _)).mono ?_
      rintro e w2 ⟨rfl, b2⟩
      have B2 := Lib.hid b2
      clear b2
      go_wp2_with fail
      go_ret
      exact ⟨ret_bY R.out, B2.out⟩
    · have BD : ∀ i, i < zs.length → 0 ≤ zs.getD i 0 ∧ zs.getD i 0 ≤ 40 := fun i hi => from_at hf hi
      have TT := Lib.hid (fun w' (hb : Below w.heap.size w w') => totY zs v w.heap.size w' hn (fun i hi => by have := BD i hi; omega) (h.below hb))
      have I40 := Lib.hid (fun w => fromY (smT zs zs.length) 1 40 w)
      have R := Lib.hid (show sprB zs = decide (1 ≤ smT zs zs.length ∧ smT zs zs.length ≤ 40) by unfold sprB; rw [hf, Bool.true_and, decide_eq_true h8, Bool.true_and])
      generalize decide (1 ≤ smT zs zs.length ∧ smT zs zs.length ≤ 40) = bb at *
      generalize smT zs zs.length = S at *
      rw [hf] at AF
      obtain ⟨q, cq, rfl, _⟩ := h
      clear hf h8 E8 BD
      go_enter Try.func68, Try.ntmps68
      go_wp2_with fail
      refine (I8.out _).mono ?_
      rintro e w1 ⟨rfl, rfl⟩
      go_wp2_with fail
      refine (AF.out _ (Below.refl _ _)).mono ?_
      rintro e w2 ⟨rfl, b2⟩
      have B2 := Lib.hid b2
      clear b2
      go_wp2_with fail
      refine (TT.out _ B2.out).mono ?_
      rintro e w3 ⟨rfl, rfl⟩
      go_wp2_with fail
      refine (I40.out _).mono ?_
      rintro e w4 ⟨rfl, rfl⟩
      go_wp2_with fail
      go_ret
      exact ⟨ret_bY R.out, B2.out⟩
  · have E8 : decide ((1 : Int) ≤ (zs.length : Int) ∧ (zs.length : Int) ≤ 8) = false := by rw [decide_eq_false_iff_not]; omega
    rw [E8] at I8
    have R := Lib.hid (show sprB zs = false by unfold sprB; rw [decide_eq_false h8, Bool.false_and])
    obtain ⟨q, cq, rfl, _⟩ := h
    clear h8 E8
    go_enter Try.func68, Try.ntmps68
    go_wp2_with fail
    refine (I8.out _).mono ?_
    rintro e w1 ⟨rfl, rfl⟩
    go_wp2_with fail
    go_ret
    exact ⟨ret_bY R.out, Below.refl _ _⟩
set_option maxRecDepth 100000 in
set_option maxHeartbeats 2000000 in
theorem aliY (ps qs : List Int) (v u : Value) (w : World) (hp : ps.length ≤ 1048576) (hq : qs.length ≤ 1048576) (hv : IntsV w w.heap.size v ps) (hu : IntsV w w.heap.size u qs) :
    Calls Try.prog 41 #[v, u] w (Gives (aliV ps qs) w) := by
  have SP := Lib.hid (fun w' (hb : Below w.heap.size w w') => isSpreadY ps v w' hp ((hv.below hb).more hb.size))
  have SQ := Lib.hid (fun w' (hb : Below w.heap.size w w') => isSpreadY qs u w' hq ((hu.below hb).more hb.size))
  unfold aliV aliB
  cases h1 : sprB ps
  · rw [h1] at SP
    obtain ⟨q1, c1, rfl, _⟩ := hv
    obtain ⟨q2, c2, rfl, _⟩ := hu
    clear h1
    go_enter Try.func41, Try.ntmps41
    go_wp2_with fail
    refine (SP.out _ (Below.refl _ _)).mono ?_
    rintro e w1 ⟨rfl, b1⟩
    have B1 := Lib.hid b1
    clear b1
    go_wp2_with fail
    go_ret2
    exact ⟨rfl, B1.out⟩
  · rw [h1] at SP
    cases h2 : sprB qs
    · rw [h2] at SQ
      obtain ⟨q1, c1, rfl, _⟩ := hv
      obtain ⟨q2, c2, rfl, _⟩ := hu
      clear h1 h2
      go_enter Try.func41, Try.ntmps41
      go_wp2_with fail
      refine (SP.out _ (Below.refl _ _)).mono ?_
      rintro e w1 ⟨rfl, b1⟩
      have B1 := Lib.hid b1
      clear b1
      go_wp2_with fail
      refine (SQ.out _ B1.out).mono ?_
      rintro e w2 ⟨rfl, b2⟩
      have B2 := bl_up' B1 b2
      clear b2
      go_wp2_with fail
      go_ret2
      exact ⟨rfl, B2.out⟩
    · rw [h2] at SQ
      have s1 := sprB_iff.1 h1
      have s2 := sprB_iff.1 h2
      have T1 := Lib.hid (fun w' (hb : Below w.heap.size w w') => totY ps v w.heap.size w' hp (fun i hi => by have := s1.bd i hi; omega) (hv.below hb))
      have T2 := Lib.hid (fun w' (hb : Below w.heap.size w w') => totY qs u w.heap.size w' hq (fun i hi => by have := s2.bd i hi; omega) (hu.below hb))
      have g1 := s1.sm (Nat.le_refl _)
      have g2 := s2.sm (Nat.le_refl _)
      generalize smT ps ps.length = S1 at *
      generalize smT qs qs.length = S2 at *
      obtain ⟨q1, c1, rfl, _⟩ := hv
      obtain ⟨q2, c2, rfl, _⟩ := hu
      clear h1 h2 s1 s2
      by_cases hl : ps.length = qs.length
      · have hlb : ((ps.length : Int) == (qs.length : Int)) = true := by rw [beq_iff_eq]; omega
        have R := Lib.hid (show ((true && true) && (decide (ps.length = qs.length) && decide (S1 = S2))) = decide (S1 = S2) by rw [decide_eq_true hl]; rfl)
        clear hl
        go_enter Try.func41, Try.ntmps41
        go_wp2_with fail
        refine (SP.out _ (Below.refl _ _)).mono ?_
        rintro e w1 ⟨rfl, b1⟩
        have B1 := Lib.hid b1
        clear b1
        go_wp2_with fail
        refine (SQ.out _ B1.out).mono ?_
        rintro e w2 ⟨rfl, b2⟩
        have B2 := bl_up' B1 b2
        clear b2
        go_wp2_with fail
        refine (T1.out _ B2.out).mono ?_
        rintro e w3 ⟨rfl, rfl⟩
        go_wp2_with fail
        refine (T2.out _ B2.out).mono ?_
        rintro e w4 ⟨rfl, rfl⟩
        go_wp2_with fail
        go_ret2
        exact ⟨by rw [R.out]; rfl, B2.out⟩
      · have hlb : ((ps.length : Int) == (qs.length : Int)) = false := by rw [beq_eq_false_iff_ne]; omega
        have R := Lib.hid (show ((true && true) && (decide (ps.length = qs.length) && decide (S1 = S2))) = false by rw [decide_eq_false hl]; rfl)
        clear hl
        go_enter Try.func41, Try.ntmps41
        go_wp2_with fail
        refine (SP.out _ (Below.refl _ _)).mono ?_
        rintro e w1 ⟨rfl, b1⟩
        have B1 := Lib.hid b1
        clear b1
        go_wp2_with fail
        refine (SQ.out _ B1.out).mono ?_
        rintro e w2 ⟨rfl, b2⟩
        have B2 := bl_up' B1 b2
        clear b2
        go_wp2_with fail
        go_ret2
        exact ⟨by rw [R.out]; rfl, B2.out⟩
end Go.Proofs.Ytligidmkhbcpmab
