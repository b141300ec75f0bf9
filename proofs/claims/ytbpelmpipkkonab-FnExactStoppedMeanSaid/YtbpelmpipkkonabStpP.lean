/- The process that is stopped, told by lists. No program is spoken of here. -/
import Derived.Test.YtbpelmpipkkonabStopP
import Derived.Test.YtbpelmpipkkonabProcI
namespace Go.Proofs.Ytbpelmpipkkonab
set_option linter.unusedVariables false
/-- The number at a node. -/
def stpF (ps zs ss : List Int) (x : Nat) : Int := if (nodT ps ss).getD x 0 < 0 then zs.getD x 0 else zs.getD ((nodT ps ss).getD x 0).toNat 0
def halfN (zs : List Int) (f : Nat → Int) (n k : Nat) : List Int := (List.range n).map fun x => if x < k then f x else zs.getD x 0
def stpT (ps zs ss : List Int) : List Int := halfN zs (stpF ps zs ss) ps.length ps.length
theorem halfN_len (zs : List Int) (f : Nat → Int) (n k : Nat) : (halfN zs f n k).length = n := by simp [halfN]
theorem halfN_at {zs : List Int} {f : Nat → Int} {n k x : Nat} (hx : x < n) : (halfN zs f n k).getD x 0 = if x < k then f x else zs.getD x 0 := by
  rw [List.getD_eq_getElem?_getD, List.getElem?_eq_getElem (by rw [halfN_len]; exact hx)]
  simp [halfN]
theorem halfN_zero (zs : List Int) (f : Nat → Int) {n : Nat} (h : zs.length = n) : halfN zs f n 0 = zs := by
  refine list_ext_getD (by rw [halfN_len, h]) (fun y hy => ?_)
  rw [halfN_len] at hy
  rw [halfN_at hy, if_neg (by omega)]
theorem halfN_set {zs : List Int} {f : Nat → Int} {n k : Nat} (hk : k < n) : (halfN zs f n k).set k (f k) = halfN zs f n (k + 1) := by
  refine list_ext_getD (by rw [List.length_set, halfN_len, halfN_len]) (fun y hy => ?_)
  rw [List.length_set, halfN_len] at hy
  rw [halfN_at hy]
  by_cases e : y = k
  · subst e; rw [getD_set_same (by rw [halfN_len]; exact hk), if_pos (by omega)]
  · rw [getD_set_other (fun e' => e e'.symm), halfN_at hy]
    by_cases h : y < k
    · rw [if_pos h, if_pos (by omega)]
    · rw [if_neg h, if_neg (by omega)]
theorem halfN_keep {zs : List Int} {f : Nat → Int} {n k : Nat} (h : f k = zs.getD k 0) : halfN zs f n k = halfN zs f n (k + 1) := by
  refine list_ext_getD (by rw [halfN_len, halfN_len]) (fun y hy => ?_)
  rw [halfN_len] at hy
  rw [halfN_at hy, halfN_at hy]
  by_cases e : y = k
  · subst e; rw [if_neg (by omega), if_pos (by omega), h]
  · by_cases h' : y < k
    · rw [if_pos h', if_pos (by omega)]
    · rw [if_neg h', if_neg (by omega)]
/-- A process and a stopping of a valid tree. -/
def bothB (ps ws zs ss : List Int) : Bool := procB ps ws zs && stopB ps ws ss
def ifBoth (ps ws zs ss L : List Int) : List Int := if bothB ps ws zs ss = true then L else []
theorem stp_len (ps ws zs ss : List Int) : (ifBoth ps ws zs ss (stpT ps zs ss)).length ≤ 1048576 := by
  unfold ifBoth
  split
  · rename_i h
    unfold bothB at h
    rw [Bool.and_eq_true] at h
    have := (procB_iff.1 h.1).good.n24
    unfold stpT
    rw [halfN_len]; omega
  · simp
theorem stpF_keep {ps zs ss : List Int} {x : Nat} (h : (nodT ps ss).getD x 0 < 0) : stpF ps zs ss x = zs.getD x 0 := by unfold stpF; rw [if_pos h]
theorem stpF_set {ps zs ss : List Int} {x y : Nat} (h : (nodT ps ss).getD x 0 = (y : Int)) : stpF ps zs ss x = zs.getD y 0 := by
  unfold stpF; rw [h, if_neg (by omega), Int.toNat_natCast]
end Go.Proofs.Ytbpelmpipkkonab
