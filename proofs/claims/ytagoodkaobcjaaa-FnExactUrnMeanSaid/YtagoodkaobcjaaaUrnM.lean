/- UrnMean, in the program and in the model. -/
import Derived.Test.YtagoodkaobcjaaaUrnI
import Derived.Test.YtagoodkaobcjaaaFracC
import Derived.Test.YtagoodkaobcjaaaFracK
namespace Go.Proofs.Ytagoodkaobcjaaa
open Go.RowKit
set_option linter.unusedVariables false
theorem urnS (r b x : Int) (w : World) (ir : InI64 r) (ib : InI64 b) : Calls Try.prog 51 #[.int .i64 r, .int .i64 b, .int .i64 x] w (QR (.bool (urOk r b x)) w) := by
  have F1 := Lib.hid (fun w => inS r 0 20 w)
  have F2 := Lib.hid (fun w => inS b 0 20 w)
  have F3 := Lib.hid (fun w => inS x 0 20 w)
  by_cases h1 : 0 ≤ r ∧ r ≤ 20
  · by_cases h2 : 0 ≤ b ∧ b ≤ 20
    · by_cases h4 : 0 < r + b
      · by_cases h3 : 0 ≤ x ∧ x ≤ 20
        · rw [decide_eq_true h1] at F1
          rw [decide_eq_true h2] at F2
          rw [decide_eq_true h3] at F3
          obtain ⟨y1, _⟩ := urn_yes (r := r) (b := b) (x := x) (by omega)
          rw [y1]
          clear y1
          go_enter Try.func51, Try.ntmps51
          go_wp2_with fail
          refine (F1.out _).mono ?_
          rintro e w1 ⟨rfl, rfl⟩
          go_wp2_with fail
          refine (F2.out _).mono ?_
          rintro e w1 ⟨rfl, rfl⟩
          go_wp2_with fail
          refine (F3.out _).mono ?_
          rintro e w1 ⟨rfl, rfl⟩
          go_wp2_with fail
          go_ret
          exact ⟨rfl, rfl⟩
        · rw [decide_eq_true h1] at F1
          rw [decide_eq_true h2] at F2
          rw [decide_eq_false h3] at F3
          obtain ⟨y1, _⟩ := urn_no (r := r) (b := b) (x := x) (by omega)
          rw [y1]
          clear y1
          go_enter Try.func51, Try.ntmps51
          go_wp2_with fail
          refine (F1.out _).mono ?_
          rintro e w1 ⟨rfl, rfl⟩
          go_wp2_with fail
          refine (F2.out _).mono ?_
          rintro e w1 ⟨rfl, rfl⟩
          go_wp2_with fail
          refine (F3.out _).mono ?_
          rintro e w1 ⟨rfl, rfl⟩
          go_wp2_with fail
          go_ret
          exact ⟨rfl, rfl⟩
      · rw [decide_eq_true h1] at F1
        rw [decide_eq_true h2] at F2
        obtain ⟨y1, _⟩ := urn_no (r := r) (b := b) (x := x) (by omega)
        rw [y1]
        clear y1
        go_enter Try.func51, Try.ntmps51
        go_wp2_with fail
        refine (F1.out _).mono ?_
        rintro e w1 ⟨rfl, rfl⟩
        go_wp2_with fail
        refine (F2.out _).mono ?_
        rintro e w1 ⟨rfl, rfl⟩
        go_wp2_with fail
        go_ret
        exact ⟨rfl, rfl⟩
    · rw [decide_eq_true h1] at F1
      rw [decide_eq_false h2] at F2
      obtain ⟨y1, _⟩ := urn_no (r := r) (b := b) (x := x) (by omega)
      rw [y1]
      clear y1
      go_enter Try.func51, Try.ntmps51
      go_wp2_with fail
      refine (F1.out _).mono ?_
      rintro e w1 ⟨rfl, rfl⟩
      go_wp2_with fail
      refine (F2.out _).mono ?_
      rintro e w1 ⟨rfl, rfl⟩
      go_wp2_with fail
      go_ret
      exact ⟨rfl, rfl⟩
  · rw [decide_eq_false h1] at F1
    obtain ⟨y1, _⟩ := urn_no (r := r) (b := b) (x := x) (by omega)
    rw [y1]
    clear y1
    go_enter Try.func51, Try.ntmps51
    go_wp2_with fail
    refine (F1.out _).mono ?_
    rintro e w1 ⟨rfl, rfl⟩
    go_wp2_with fail
    go_ret
    exact ⟨rfl, rfl⟩
def umV (r b x n : Int) : Value := if urOk r b x = true ∧ 0 ≤ n ∧ n ≤ 10 then keptV (cutN r (r + b)) (cutD r (r + b)) else .tuple #[.agg #[.int .i64 0, .int .i64 0], .bool false]
theorem umV_form (r b x n : Int) : ∃ p q ok, umV r b x n = .tuple #[.agg #[.int .i64 p, .int .i64 q], .bool ok] := by
  unfold umV
  split
  · exact keptV_form _ _
  · exact ⟨_, _, _, rfl⟩
theorem urn_has {r b x : Int} (h : urOk r b x = true) : (0 ≤ r ∧ r ≤ 20) ∧ (0 ≤ b ∧ b ≤ 20) ∧ 0 < r + b := by
  unfold urOk at h
  simp only [Bool.and_eq_true, decide_eq_true_iff] at h
  exact ⟨h.1.1.1, h.1.1.2, h.2⟩
set_option maxRecDepth 100000 in
set_option maxHeartbeats 4000000 in
theorem umC (r b x n : Int) (w : World) (ir : InI64 r) (ib : InI64 b) : Calls Try.prog 29 #[.int .i64 r, .int .i64 b, .int .i64 x, .int .i64 n] w (Gives (umV r b x n) w) := by
  have V := Lib.hid (fun w => urnOfC r b x w)
  have G := Lib.hid (fun w => fromI n 0 10 w)
  have B0 := Lib.hid (bl_self w (.cells #[.int .i64 0, .int .i64 0] 32))
  have RC := Lib.hid (fun w3 b => rs_cells (w := w) (w3 := w3) b)
  have RF := Lib.hid (fun w3 x y b => rs_fin (w := w) (w3 := w3) (x := x) (y := y) b)
  obtain ⟨wa, hwa⟩ : ∃ wa, wa = w.alloc (.cells #[.int .i64 0, .int .i64 0] 32) := ⟨_, rfl⟩
  rw [← hwa] at B0 RC RF
  cases hv : urOk r b x
  · rw [hv] at V
    rw [show umV r b x n = .tuple #[.agg #[.int .i64 0, .int .i64 0], .bool false] from if_neg (fun h => by rw [hv] at h; exact absurd h.1 (by decide))]
    rw [show urV r b x = .agg #[.int .i64 0, .int .i64 0, .int .i64 0] from if_neg (by rw [hv]; decide)] at V
    clear hv
    go_enter Try.func29, Try.ntmps29
    go_wp2_with fail
    rw [← hwa]
    clear hwa
    refine (V.out _).mono ?_
    rintro e w1 ⟨rfl, b1⟩
    have B1 := Lib.hid (bl_then B0.out b1)
    have BB := Lib.hid (B1.out.alloc B1.out.size (.cells #[.int .i64 0, .int .i64 0, .int .i64 0] 55))
    clear b1
    obtain ⟨⟨x0, y0⟩, x1, y1⟩ := RC.out _ BB.out
    go_wp2_with fail
    refine bodyPost_ret (v := .tuple #[.agg #[.int .i64 0, .int .i64 0], .bool false]) (by simp [results, Try.results29, go_sem, x0, x1]) rfl ⟨rfl, ?_⟩
    first | exact RF.out _ _ _ BB.out | exact RF.out _ _ _ B1.out | exact RF.out _ _ _ B0.out | exact rs_same BB.out
  · rw [hv] at V
    rw [show urV r b x = .agg #[.int .i64 r, .int .i64 b, .int .i64 x] from if_pos hv] at V
    obtain ⟨hr, hb, hp⟩ := urn_has hv
    by_cases hn : 0 ≤ n ∧ n ≤ 10
    · rw [decide_eq_true hn] at G
      rw [show umV r b x n = keptV (cutN r (r + b)) (cutD r (r + b)) from if_pos ⟨hv, hn⟩]
      have RD := Lib.hid (fun w => reduceI_any r (r + b) w (by omega) (by omega))
      obtain ⟨p, q, ok, hK⟩ := keptV_form (cutN r (r + b)) (cutD r (r + b))
      rw [hK] at RD ⊢
      clear hv hn hK
      go_enter Try.func29, Try.ntmps29
      go_wp2_with fail
      rw [← hwa]
      clear hwa
      refine (V.out _).mono ?_
      rintro e w1 ⟨rfl, b1⟩
      have B1 := Lib.hid (bl_then B0.out b1)
      have BB := Lib.hid (B1.out.alloc B1.out.size (.cells #[.int .i64 r, .int .i64 b, .int .i64 x] 55))
      clear b1
      go_wp2_with fail
      refine (G.out _).mono ?_
      rintro e w2 ⟨rfl, rfl⟩
      go_wp2_with fail
      refine (RD.out _).mono ?_
      rintro e w3 ⟨rfl, b3⟩
      have B3 := Lib.hid (bl_then BB.out b3)
      clear b3
      obtain ⟨⟨x0, y0⟩, x1, y1⟩ := RC.out _ B3.out
      go_wp2_with fail
      refine bodyPost_ret (v := .tuple #[.agg #[.int .i64 p, .int .i64 q], .bool ok]) (by simp [results, Try.results29, go_sem, x0, x1]) rfl ⟨rfl, ?_⟩
      exact RF.out _ _ _ B3.out
    · rw [decide_eq_false hn] at G
      rw [show umV r b x n = .tuple #[.agg #[.int .i64 0, .int .i64 0], .bool false] from if_neg (fun h => hn h.2)]
      clear hv hn
      go_enter Try.func29, Try.ntmps29
      go_wp2_with fail
      rw [← hwa]
      clear hwa
      refine (V.out _).mono ?_
      rintro e w1 ⟨rfl, b1⟩
      have B1 := Lib.hid (bl_then B0.out b1)
      have BB := Lib.hid (B1.out.alloc B1.out.size (.cells #[.int .i64 r, .int .i64 b, .int .i64 x] 55))
      clear b1
      go_wp2_with fail
      refine (G.out _).mono ?_
      rintro e w2 ⟨rfl, rfl⟩
      obtain ⟨⟨x0, y0⟩, x1, y1⟩ := RC.out _ BB.out
      go_wp2_with fail
      refine bodyPost_ret (v := .tuple #[.agg #[.int .i64 0, .int .i64 0], .bool false]) (by simp [results, Try.results29, go_sem, x0, x1]) rfl ⟨rfl, ?_⟩
      first | exact RF.out _ _ _ BB.out | exact RF.out _ _ _ B1.out | exact RF.out _ _ _ B0.out | exact rs_same BB.out
set_option maxRecDepth 100000 in
set_option maxHeartbeats 4000000 in
theorem umS (r b x n : Int) (w : World) (ir : InI64 r) (ib : InI64 b) : Calls Try.prog 28 #[.int .i64 r, .int .i64 b, .int .i64 x, .int .i64 n] w (Gives (umV r b x n) w) := by
  have V := Lib.hid (fun w => urnS r b x w ir ib)
  have G := Lib.hid (fun w => inS n 0 10 w)
  have B0 := Lib.hid (bl_self w (.cells #[.int .i64 0, .int .i64 0] 32))
  have RC := Lib.hid (fun w3 b => rs_cells (w := w) (w3 := w3) b)
  have RF := Lib.hid (fun w3 x y b => rs_fin (w := w) (w3 := w3) (x := x) (y := y) b)
  obtain ⟨wa, hwa⟩ : ∃ wa, wa = w.alloc (.cells #[.int .i64 0, .int .i64 0] 32) := ⟨_, rfl⟩
  rw [← hwa] at B0 RC RF
  cases hv : urOk r b x
  · rw [hv] at V
    rw [show umV r b x n = .tuple #[.agg #[.int .i64 0, .int .i64 0], .bool false] from if_neg (fun h => by rw [hv] at h; exact absurd h.1 (by decide))]
    clear hv
    go_enter Try.func28, Try.ntmps28
    go_wp2_with fail
    rw [← hwa]
    clear hwa
    refine (V.out _).mono ?_
    rintro e w1 ⟨rfl, rfl⟩
    obtain ⟨⟨x0, y0⟩, x1, y1⟩ := RC.out _ B0.out
    go_wp2_with fail
    refine bodyPost_ret (v := .tuple #[.agg #[.int .i64 0, .int .i64 0], .bool false]) (by simp [results, Try.results28, go_sem, x0, x1]) rfl ⟨rfl, ?_⟩
    first | exact RF.out _ _ _ B0.out
  · rw [hv] at V
    obtain ⟨hr, hb, hp⟩ := urn_has hv
    by_cases hn : 0 ≤ n ∧ n ≤ 10
    · rw [decide_eq_true hn] at G
      rw [show umV r b x n = keptV (cutN r (r + b)) (cutD r (r + b)) from if_pos ⟨hv, hn⟩]
      have CU := Lib.hid (fun w => cutS r (r + b) w (by omega) (by omega))
      have KP := Lib.hid (fun w => keptS_cut (a := r) (b := r + b) w (by omega))
      obtain ⟨p, q, ok, hK⟩ := keptV_form (cutN r (r + b)) (cutD r (r + b))
      rw [hK] at KP ⊢
      generalize cutN r (r + b) = CN at *
      generalize cutD r (r + b) = CD at *
      clear hv hn hK
      go_enter Try.func28, Try.ntmps28
      go_wp2_with fail
      rw [← hwa]
      clear hwa
      refine (V.out _).mono ?_
      rintro e w1 ⟨rfl, rfl⟩
      go_wp2_with fail
      refine (G.out _).mono ?_
      rintro e w2 ⟨rfl, rfl⟩
      go_wp2_with fail
      refine (CU.out _).mono ?_
      rintro e w3 ⟨rfl, b3⟩
      have B3 := Lib.hid (bl_then B0.out b3)
      clear b3
      go_wp2_with fail
      refine (KP.out _).mono ?_
      rintro e w4 ⟨rfl, b4⟩
      have B4 := Lib.hid (bl_then B3.out b4)
      clear b4
      obtain ⟨⟨x0, y0⟩, x1, y1⟩ := RC.out _ B4.out
      go_wp2_with fail
      refine bodyPost_ret (v := .tuple #[.agg #[.int .i64 p, .int .i64 q], .bool ok]) (by simp [results, Try.results28, go_sem, x0, x1]) rfl ⟨rfl, ?_⟩
      exact RF.out _ _ _ B4.out
    · rw [decide_eq_false hn] at G
      rw [show umV r b x n = .tuple #[.agg #[.int .i64 0, .int .i64 0], .bool false] from if_neg (fun h => hn h.2)]
      clear hv hn
      go_enter Try.func28, Try.ntmps28
      go_wp2_with fail
      rw [← hwa]
      clear hwa
      refine (V.out _).mono ?_
      rintro e w1 ⟨rfl, rfl⟩
      go_wp2_with fail
      refine (G.out _).mono ?_
      rintro e w2 ⟨rfl, rfl⟩
      obtain ⟨⟨x0, y0⟩, x1, y1⟩ := RC.out _ B0.out
      go_wp2_with fail
      refine bodyPost_ret (v := .tuple #[.agg #[.int .i64 0, .int .i64 0], .bool false]) (by simp [results, Try.results28, go_sem, x0, x1]) rfl ⟨rfl, ?_⟩
      first | exact RF.out _ _ _ B0.out
end Go.Proofs.Ytagoodkaobcjaaa
