/- The arguments of the laws, opened: a pair. -/
import Derived.Test.YtfnnlkbecnjloaaTreeH
import Derived.Test.YtfnnlkbecnjloaaFrame
import Derived.WalkKit
import Derived.ProofKit
import Derived.OpenShut
import Derived.Lib.SmallJoins
namespace Go.Proofs.Ytfnnlkbecnjloaa
open Go.RowKit Go.WideShapes Go.ChangeShapes Go.Joins
set_option linter.unusedVariables false
section
variable {H : Type} {enc : TypeId × Value → H} {W : World}
theorem intCells1 : Try.prog.cellsOf 3 = 1 := by kernel_rfl
theorem pairCells : Try.prog.cellsOf 22 = 2 := by kernel_rfl
theorem pairV_arg {base : Nat} {v : Value} {d : DataW H} {p : List MemPlace} (hv : Value.okWide Try.prog W .any base 22 v) (h : DataW.Trod enc Try.prog W 0 (fun _ => true) true 22 v d p) : ∃ a b : Int, v = .agg #[.int .i64 a, .int .i64 b] := by
  obtain ⟨cs, rfl, hsz⟩ : ∃ cs, v = .agg cs ∧ cs.size = Try.prog.cellsOf 22 := by
    simp only [Value.okWide, Try.underlying22] at hv
    obtain ⟨cs, h1, h2, _⟩ := hv
    exact ⟨cs, h1, h2⟩
  obtain ⟨c0, c1, rfl⟩ := array2 (hsz.trans pairCells)
  obtain ⟨fuel, hf⟩ := h
  obtain ⟨xs, m, _, _, _, hl, he⟩ := DataW.trod_array Try.underlying22 hf
  match xs, hl with
  | [y0, y1], _ =>
    have e0 := he 0 (by omega)
    have e1 := he 1 (by omega)
    rw [intCells1] at e0 e1
    simp [Value.cells] at e0 e1
    obtain ⟨a, h1, _⟩ := DataW.trod_int Try.underlying3 e0
    obtain ⟨b, h2, _⟩ := DataW.trod_int Try.underlying3 e1
    simp at h1 h2
    exact ⟨a, b, by rw [h1, h2]⟩
end
end Go.Proofs.Ytfnnlkbecnjloaa
