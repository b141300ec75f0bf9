/- The earlier and the later ones of two stoppings. No program is spoken of here. -/
import Derived.Test.YtagljebfbacdhaaStopP
import Derived.Test.YtagljebfbacdhaaPutP
import Derived.Test.YtagljebfbacdhaaEndsL
namespace Go.Proofs.Ytagljebfbacdhaa
set_option linter.unusedVariables false
theorem put_take {C : List Int} {n k x : Nat} (hk : k < C.length) (hx : C.getD k 0 = (x : Int)) (h : x < n) : putL (nodesW (fun y => inL (C.take k) (y : Int)) n) (x : Int) = nodesW (fun y => inL (C.take (k + 1)) (y : Int)) n := by
  rw [put_nodes _ h]
  refine nodesW_congr fun y hy => ?_
  rw [inL_take hk, hx]
  by_cases e : y = x
  · subst e; simp
  · have : ¬ (y : Int) = (x : Int) := by omega
    rw [if_neg this, decide_eq_false e, Bool.or_false]
/-- One of two numbers. -/
def oneOf (lt : Bool) (a b : Int) : Int := if lt = true then (if b < a then a else b) else (if a < b then a else b)
/-- The nodes chosen at the ends. -/
def pickC (ps a b : List Int) (lt : Bool) : List Int := (endsT ps).map fun e => oneOf lt ((nodT ps a).getD e.toNat 0) ((nodT ps b).getD e.toNat 0)
def pickT (ps a b : List Int) (lt : Bool) : List Int := nodesW (fun x => inL (pickC ps a b lt) (x : Int)) ps.length
theorem pickC_len (ps a b : List Int) (lt : Bool) : (pickC ps a b lt).length = (endsT ps).length := by simp [pickC]
theorem pickC_at (ps a b : List Int) (lt : Bool) {k : Nat} (hk : k < (endsT ps).length) : (pickC ps a b lt).getD k 0 = oneOf lt ((nodT ps a).getD ((endsT ps).getD k 0).toNat 0) ((nodT ps b).getD ((endsT ps).getD k 0).toNat 0) := by
  unfold pickC
  have e : (endsT ps).getD k 0 = (endsT ps)[k] := by rw [List.getD_eq_getElem?_getD, List.getElem?_eq_getElem hk]; rfl
  rw [e, List.getD_eq_getElem?_getD, List.getElem?_map, List.getElem?_eq_getElem hk]
  rfl
theorem pickC_in {ps ws a b : List Int} (sa : Stop ps ws a) (sb : Stop ps ws b) (lt : Bool) {k : Nat} (hk : k < (endsT ps).length) : ∃ x : Nat, (pickC ps a b lt).getD k 0 = (x : Int) ∧ x < ps.length := by
  obtain ⟨e, h1, h2, h3⟩ := ends_in hk
  rw [pickC_at ps a b lt hk, ← h1, Int.toNat_natCast]
  have ha := (sa.end_ h2 h3).2
  have hb := (sb.end_ h2 h3).2
  unfold oneOf
  split
  · split
    · exact ⟨((nodT ps a).getD e 0).toNat, by omega, by omega⟩
    · exact ⟨((nodT ps b).getD e 0).toNat, by omega, by omega⟩
  · split
    · exact ⟨((nodT ps a).getD e 0).toNat, by omega, by omega⟩
    · exact ⟨((nodT ps b).getD e 0).toNat, by omega, by omega⟩
/-- Two stoppings of a valid tree. -/
def twoB (ps ws a b : List Int) : Bool := stopB ps ws a && stopB ps ws b
def ifTwo (ps ws a b L : List Int) : List Int := if twoB ps ws a b = true then L else []
theorem pick_len (ps ws a b : List Int) (lt : Bool) : (ifTwo ps ws a b (pickT ps a b lt)).length ≤ 1048576 := by
  unfold ifTwo
  split
  · rename_i h
    unfold twoB at h
    rw [Bool.and_eq_true] at h
    have := (stopB_iff.1 h.1).good.n24
    have := nodesW_len (fun x => inL (pickC ps a b lt) (x : Int)) ps.length
    unfold pickT
    omega
  · simp
end Go.Proofs.Ytagljebfbacdhaa
