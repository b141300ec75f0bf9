/- Children, in the program and in the model. -/
import Derived.Test.YtamneibnjbimeaaNode
import Derived.Deep.QuietTactic
import Derived.BigQuiet
namespace Go.Proofs.Ytamneibnjbimeaa
open Go.RowKit
set_option linter.unusedVariables false
/-- What a function returns that asks for a node. -/
def ifNode (ps ws : List Int) (x : Int) (zs : List Int) : List Int := if nodeB ps ws x = true then zs else []
theorem nodeB_true {ps ws : List Int} {x : Int} (h : nodeB ps ws x = true) : Good ps ws ∧ 0 ≤ x ∧ x < (ps.length : Int) := by
  unfold nodeB at h
  rw [Bool.and_eq_true, decide_eq_true_eq] at h
  exact ⟨Good.of h.1, h.2.1, h.2.2⟩
theorem kidsF_good {ps ws : List Int} (g : Good ps ws) (x : Nat) : kidsF ps x ps.length = kidsT ps x := by
  rw [kidsT_eq]
  unfold kidsF
  refine nodesW_congr fun y hy => ?_
  rw [Bool.eq_iff_iff, Bool.and_eq_true, decide_eq_true_eq, beq_iff_eq]
  constructor
  · exact fun h => h.2
  · intro h
    have := g.kid_gt hy h
    exact ⟨by omega, h⟩
theorem kidsN (ps ws : List Int) (v : Value) (x : Int) (w : World) (gd : Good ps ws) (h0 : 0 ≤ x) (h1 : x < (ps.length : Int)) (h : TreeV w w.heap.size v ps ws) :
    Calls Try.prog 83 #[v, .int .i64 x] w (NewInts (kidsT ps x) w) := by
  obtain ⟨k, rfl⟩ : ∃ k : Nat, x = (k : Int) := ⟨x.toNat, by omega⟩
  rw [← kidsF_good gd]
  have := gd.n24
  exact kidsS ps ws v k w (by omega) (by omega) h
theorem kids_len (ps ws : List Int) (x : Int) : (ifNode ps ws x (kidsT ps x)).length ≤ 1048576 := by
  unfold ifNode
  split
  · rename_i h
    have := (nodeB_true h).1.n24
    have := nodesW_len (fun y => ps.getD y 0 == x) ps.length
    rw [kidsT_eq]; omega
  · simp
end Go.Proofs.Ytamneibnjbimeaa
