/- UrnMean, in the program and in the model. -/
import Derived.Test.YtligidmkhbcpmacUrnI
import Derived.Test.YtligidmkhbcpmacFracC
import Derived.Test.YtligidmkhbcpmacFracK
namespace Go.Proofs.Ytligidmkhbcpmac
open Go.RowKit
set_option linter.unusedVariables false
theorem urnS (r b x : Int) (w : World) (ir : InI64 r) (ib : InI64 b) : Calls Try.prog 134 #[.int .i64 r, .int .i64 b, .int .i64 x] w (QR (.bool (urOk r b x)) w) := by
  have F1 := Lib.hid (fun w => inS r 0 20 w)
  have F2 := Lib.hid (fun w => inS b 0 20 w)
  have F3 := Lib.hid (fun w => inS x 0 20 w)
  by_cases h1 : 0 ≤ r ∧ r ≤ 20
  · by_cases h2 : 0 ≤ b ∧ b ≤ 20
    · by_cases h4 : 0 < r + b
      · by_cases h3 : 0 ≤ x ∧ x ≤ 20
        · rw [decide_eq_true h1] at F1
          rw [decide_eq_true h2] at F2
          rw [decide_eq_true h3] at F3
          obtain ⟨y1, _⟩ := urn_yes (r := r) (b := b) (x := x) (by omega)
          rw [y1]
          clear y1
          go_enter Try.func134, Try.ntmps134
          go_wp2_with fail
          refine (F1.out _).mono ?_
          rintro e w1 ⟨rfl, rfl⟩
          go_wp2_with fail
          refine (F2.out _).mono ?_
          rintro e w1 ⟨rfl, rfl⟩
          go_wp2_with fail
          refine (F3.out _).mono ?_
          rintro e w1 ⟨rfl, rfl⟩
          go_wp2_with fail
          go_ret
          exact ⟨rfl, rfl⟩
        · rw [decide_eq_true h1] at F1
          rw [decide_eq_true h2] at F2
          rw [decide_eq_false h3] at F3
          obtain ⟨y1, _⟩ := urn_no (r := r) (b := b) (x := x) (by omega)
          rw [y1]
          clear y1
          go_enter Try.func134, Try.ntmps134
          go_wp2_with fail
          refine (F1.out _).mono ?_
          rintro e w1 ⟨rfl, rfl⟩
          go_wp2_with fail
          refine (F2.out _).mono ?_
          rintro e w1 ⟨rfl, rfl⟩
          go_wp2_with fail
          refine (F3.out _).mono ?_
          rintro e w1 ⟨rfl, rfl⟩
          go_wp2_with fail
          go_ret
          exact ⟨rfl, rfl⟩
      · rw [decide_eq_true h1] at F1
        rw [decide_eq_true h2] at F2
        obtain ⟨y1, _⟩ := urn_no (r := r) (b := b) (x := x) (by omega)
        rw [y1]
        clear y1
        go_enter Try.func134, Try.ntmps134
        go_wp2_with fail
        refine (F1.out _).mono ?_
        rintro e w1 ⟨rfl, rfl⟩
        go_wp2_with fail
        refine (F2.out _).mono ?_
        rintro e w1 ⟨rfl, rfl⟩
        go_wp2_with fail
        go_ret
        exact ⟨rfl, rfl⟩
    · rw [decide_eq_true h1] at F1
      rw [decide_eq_false h2] at F2
      obtain ⟨y1, _⟩ := urn_no (r := r) (b := b) (x := x) (by omega)
      rw [y1]
      clear y1
      go_enter Try.func134, Try.ntmps134
      go_wp2_with fail
      refine (F1.out _).mono ?_
      rintro e w1 ⟨rfl, rfl⟩
      go_wp2_with fail
      refine (F2.out _).mono ?_
      rintro e w1 ⟨rfl, rfl⟩
      go_wp2_with fail
      go_ret
      exact ⟨rfl, rfl⟩
  · rw [decide_eq_false h1] at F1
    obtain ⟨y1, _⟩ := urn_no (r := r) (b := b) (x := x) (by omega)
    rw [y1]
    clear y1
    go_enter Try.func134, Try.ntmps134
    go_wp2_with fail
    refine (F1.out _).mono ?_
    rintro e w1 ⟨rfl, rfl⟩
    go_wp2_with fail
    go_ret
    exact ⟨rfl, rfl⟩
def umV (r b x n : Int) : Value := if urOk r b x = true ∧ 0 ≤ n ∧ n ≤ 10 then keptV (cutN r (r + b)) (cutD r (r + b)) else .tuple #[.agg #[.int .i64 0, .int .i64 0], .bool false]
theorem umV_form (r b x n : Int) : ∃ p q ok, umV r b x n = .tuple #[.agg #[.int .i64 p, .int .i64 q], .bool ok] := by
  unfold umV
  split
  · exact keptV_form _ _
  · exact ⟨_, _, _, rfl⟩
theorem urn_has {r b x : Int} (h : urOk r b x = true) : (0 ≤ r ∧ r ≤ 20) ∧ (0 ≤ b ∧ b ≤ 20) ∧ 0 < r + b := by
  unfold urOk at h
  simp only [Bool.and_eq_true, decide_eq_true_iff] at h
  exact ⟨h.1.1.1, h.1.1.2, h.2⟩
end Go.Proofs.Ytligidmkhbcpmac
