/- Payments less the costs of steps, told by lists. No program is spoken of here. -/
import Derived.Test.YtagljebfbacdhabProcI
import Derived.Test.YtagljebfbacdhabDepthP
import Derived.Test.YtagljebfbacdhabGainP
namespace Go.Proofs.Ytagljebfbacdhab
set_option linter.unusedVariables false
def cosT (ps zs : List Int) (c : Int) : List Int := (List.range ps.length).map fun x => zs.getD x 0 - c * (depthsT ps).getD x 0
theorem cosT_len (ps zs : List Int) (c : Int) : (cosT ps zs c).length = ps.length := by simp [cosT]
theorem cosT_at {ps zs : List Int} {c : Int} {x : Nat} (hx : x < ps.length) : (cosT ps zs c).getD x 0 = zs.getD x 0 - c * (depthsT ps).getD x 0 := by
  unfold cosT
  rw [List.getD_eq_getElem?_getD, List.getElem?_map, List.getElem?_range hx]; rfl
theorem cosT_take {ps zs : List Int} {c : Int} {k : Nat} (h : k < ps.length) : (cosT ps zs c).take (k + 1) = (cosT ps zs c).take k ++ [zs.getD k 0 - c * (depthsT ps).getD k 0] := by
  have hl : k < (cosT ps zs c).length := by rw [cosT_len]; exact h
  rw [List.take_succ_eq_append_getElem hl]
  congr 2
  have := cosT_at (zs := zs) (c := c) h
  rw [List.getD_eq_getElem?_getD, List.getElem?_eq_getElem hl] at this
  exact this
theorem cos_bd {ps ws zs : List Int} {c : Int} (p : Proc ps ws zs) (hc : 0 ≤ c ∧ c ≤ 999) {x : Nat} (hx : x < ps.length) : 0 ≤ c * (depthsT ps).getD x 0 ∧ c * (depthsT ps).getD x 0 ≤ 23976 := by
  have h1 := depthsT_bd ps x hx
  have h2 := p.good.n24
  have h3 : c.natAbs * ((depthsT ps).getD x 0).natAbs ≤ 999 * 24 := Nat.mul_le_mul (by omega) (by omega)
  rw [← Int.natAbs_mul] at h3
  have h4 : 0 ≤ c * (depthsT ps).getD x 0 := Int.mul_nonneg (by omega) (by omega)
  omega
def cosB (ps ws zs : List Int) (c : Int) : Bool := procB ps ws zs && (decide (0 ≤ c ∧ c ≤ 999) && procB ps ws (cosT ps zs c))
def ifCos (ps ws zs : List Int) (c : Int) : List Int := if cosB ps ws zs c = true then cosT ps zs c else []
theorem ifCos_no {ps ws zs : List Int} {c : Int} (h : cosB ps ws zs c = false) : ifCos ps ws zs c = [] := by unfold ifCos; rw [h]; rfl
theorem ifCos_yes {ps ws zs : List Int} {c : Int} (h : cosB ps ws zs c = true) : ifCos ps ws zs c = cosT ps zs c := by unfold ifCos; rw [h]; rfl
theorem cos_len (ps ws zs : List Int) (c : Int) : (ifCos ps ws zs c).length ≤ 1048576 := by
  unfold ifCos
  split
  · rename_i h
    unfold cosB at h
    rw [Bool.and_eq_true] at h
    have := (procB_iff.1 h.1).good.n24
    rw [cosT_len]; omega
  · simp
end Go.Proofs.Ytagljebfbacdhab
