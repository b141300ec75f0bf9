/- The arguments of the laws, opened: a slice of ints, a pair, a tree. -/
import Derived.Test.YtligidmkhbcpmacLawI
import Derived.Test.YtligidmkhbcpmacTreeH
import Derived.Test.YtligidmkhbcpmacFrame
import Derived.WalkKit
import Derived.ProofKit
import Derived.OpenShut
import Derived.Lib.SmallJoins
namespace Go.Proofs.Ytligidmkhbcpmac
open Go.RowKit Go.WideShapes Go.ChangeShapes Go.Joins
set_option linter.unusedVariables false
section
variable {H : Type} {enc : TypeId × Value → H} {W : World}
theorem intsCells : Try.prog.cellsOf 3 = 1 := by kernel_rfl
theorem intsV_open {fuel : Nat} {v : Value} {x : DataW H × List MemPlace} (hf : DataW.trod enc Try.prog W 0 (fun _ => true) true fuel 22 [v] = some x) : ∃ zs, IntsV W W.heap.size v zs := by
  rcases open_ints Try.underlying22 Try.underlying3 intsCells hf with ⟨hcs, hx⟩ | ⟨a, len, cap, zs, hcs, _, hl, hm, hzl, hx, hcell, hws⟩
  · simp at hcs
    subst hcs
    exact ⟨[], none, 0, rfl, Nat.le_refl _, Nat.zero_le _, (by intro z hz; cases hz), fun i hi => by simp at hi⟩
  · simp at hcs
    subst hcs
    simp only [if_true] at hzl
    have hlen : (zs.take len).length = len := by rw [List.length_take]; omega
    refine ⟨zs.take len, some a, cap, by rw [hlen], by omega, by omega, fun z hz => ?_, IntsAt.opened hl hzl hcell⟩
    exact inI64_of_wf (hws z (List.mem_of_mem_take hz))
set_option maxRecDepth 100000 in
theorem intsV_arg {base : Nat} {v : Value} {d : DataW H} {p : List MemPlace} (hv : Value.okWide Try.prog W .any base 22 v) (h : DataW.Trod enc Try.prog W 0 (fun _ => true) true 22 v d p) : ∃ zs, IntsV W W.heap.size v zs := by
  obtain ⟨fuel, hf⟩ := h
  obtain ⟨a, len, cap, rfl⟩ := okWide_slice Try.underlying22 hv
  exact intsV_open (by simpa [Value.cells] using hf)
set_option maxRecDepth 100000 in
theorem treeCells : Try.prog.cellsOf 24 = 2 := by kernel_rfl
set_option maxRecDepth 100000 in
theorem treeV_arg {base : Nat} {v : Value} {d : DataW H} {p : List MemPlace} (hv : Value.okWide Try.prog W .any base 24 v) (h : DataW.Trod enc Try.prog W 0 (fun _ => true) true 24 v d p) : ∃ ps ws, TreeV W W.heap.size v ps ws := by
  obtain ⟨c0, c1, y0, y1, m, rfl, _, _, hy0, hy1⟩ := open_agg2 Try.underlying24 (by kernel_rfl) treeCells hv h
  obtain ⟨ps, hp⟩ := intsV_open hy0
  obtain ⟨ws, hw⟩ := intsV_open hy1
  exact ⟨ps, ws, c0, c1, rfl, hp, hw⟩
end
end Go.Proofs.Ytligidmkhbcpmac
