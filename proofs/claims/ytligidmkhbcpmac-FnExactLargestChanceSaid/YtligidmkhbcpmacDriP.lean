/- Drifts, told by lists. No program is spoken of here. -/
import Derived.Test.YtligidmkhbcpmacMeanP
import Derived.Test.YtligidmkhbcpmacKidF
import Derived.Test.YtligidmkhbcpmacProcI
namespace Go.Proofs.Ytligidmkhbcpmac
open Go.RowKit
set_option linter.unusedVariables false
/-- What each node gives to its parent. -/
def stepL (ps S zs : List Int) (x : Nat) : List Int := (List.range ps.length).map fun y => if ps.getD y 0 = (x : Int) then S.getD y 0 * (zs.getD y 0 - zs.getD x 0) else 0
theorem stepL_at {ps S zs : List Int} {x y : Nat} (hy : y < ps.length) : (stepL ps S zs x).getD y 0 = if ps.getD y 0 = (x : Int) then S.getD y 0 * (zs.getD y 0 - zs.getD x 0) else 0 := by
  unfold stepL
  rw [List.getD_eq_getElem?_getD, List.getElem?_map, List.getElem?_range hy]; rfl
def driX (ps S zs : List Int) (k x : Nat) : Int := sumTo (stepL ps S zs x) k
def driL (ps S zs : List Int) (k : Nat) : List Int := (List.range ps.length).map fun x => driX ps S zs k x
theorem driL_len (ps S zs : List Int) (k : Nat) : (driL ps S zs k).length = ps.length := by simp [driL]
theorem driL_at {ps S zs : List Int} {k x : Nat} (hx : x < ps.length) : (driL ps S zs k).getD x 0 = driX ps S zs k x := by
  unfold driL
  rw [List.getD_eq_getElem?_getD, List.getElem?_map, List.getElem?_range hx]; rfl
theorem driX_one {ps S zs : List Int} (h0 : ps.getD 0 0 = -1) (h1 : 1 ≤ ps.length) (x : Nat) : driX ps S zs 1 x = 0 := by
  unfold driX
  rw [sumTo, sumTo, stepL_at (by omega), h0, if_neg (by omega)]; rfl
theorem driL_one {ps S zs : List Int} (h0 : ps.getD 0 0 = -1) (h1 : 1 ≤ ps.length) : driL ps S zs 1 = List.replicate ps.length 0 := by
  apply List.ext_getElem
  · rw [driL_len, List.length_replicate]
  · intro i h2 h3
    simp only [driL, List.getElem_map, List.getElem_range, List.getElem_replicate]
    exact driX_one h0 h1 i
theorem driL_set {ps S zs : List Int} {k j : Nat} (hk : k < ps.length) (hj : ps.getD k 0 = (j : Int)) (hjn : j < ps.length) :
    (driL ps S zs k).set j ((driL ps S zs k).getD j 0 + S.getD k 0 * (zs.getD k 0 - zs.getD j 0)) = driL ps S zs (k + 1) := by
  apply List.ext_getElem
  · rw [List.length_set, driL_len, driL_len]
  · intro i h1 h2
    rw [List.getElem_set]
    by_cases h : j = i
    · subst h
      rw [if_pos rfl, driL_at hjn]
      simp only [driL, List.getElem_map, List.getElem_range]
      unfold driX
      rw [sumTo, stepL_at hk, if_pos hj]
    · rw [if_neg h]
      simp only [driL, List.getElem_map, List.getElem_range]
      unfold driX
      rw [sumTo, stepL_at hk, if_neg (by rw [hj]; omega), Int.add_zero]
theorem step_bd {ps ws zs : List Int} (p : Proc ps ws zs) {x y : Nat} (hx : x < ps.length) (hy : y < ps.length) : ((sumsT ps ws).getD y 0 * (zs.getD y 0 - zs.getD x 0)).natAbs ≤ 959040 := by
  have h1 := sumsT_bd p.good y hy
  have h2 := p.bd y (by have := p.len; omega)
  have h3 := p.bd x (by have := p.len; omega)
  exact natAbs_mul_le (a := 480) (b := 1998) (by omega) (by omega)
theorem driX_bd {ps ws zs : List Int} (p : Proc ps ws zs) {x k : Nat} (hx : x < ps.length) (hk : k ≤ ps.length) : (driX ps (sumsT ps ws) zs k x).natAbs ≤ 23016960 := by
  have h := sumTo_bound (L := stepL ps (sumsT ps ws) zs x) (B := 959040) k (fun y hy => by
    rw [stepL_at (by omega)]
    split
    · exact step_bd p hx (by omega)
    · simp)
  have h2 : k * 959040 ≤ 24 * 959040 := Nat.mul_le_mul_right _ (by have := p.good.n24; omega)
  unfold driX
  omega
theorem sum_split {ps S zs : List Int} (x : Nat) : ∀ k, k ≤ ps.length → sumTo ((List.range ps.length).map fun y => if (ps.getD y 0 == (x : Int)) = true then S.getD y 0 * zs.getD y 0 else 0) k - sumTo (kidL ps S x) k * zs.getD x 0 = driX ps S zs k x := by
  intro k
  induction k with
  | zero => intro _; simp [sumTo, driX]
  | succ k ih =>
    intro h
    have h1 := ih (by omega)
    have hat : ((List.range ps.length).map fun y => if (ps.getD y 0 == (x : Int)) = true then S.getD y 0 * zs.getD y 0 else 0).getD k 0 = if (ps.getD k 0 == (x : Int)) = true then S.getD k 0 * zs.getD k 0 else 0 := by
      rw [List.getD_eq_getElem?_getD, List.getElem?_map, List.getElem?_range (by omega)]; rfl
    unfold driX at h1 ⊢
    rw [sumTo, hat, sumTo, kidL_at (by omega), sumTo, stepL_at (by omega), Int.add_mul]
    by_cases he : ps.getD k 0 = (x : Int)
    · rw [if_pos (by simpa using he), if_pos he, if_pos he, Int.mul_sub]
      omega
    · rw [if_neg (by simpa using he), if_neg he, if_neg he]
      omega
/-- The model's sum at an inner node. -/
theorem dri_model {ps ws zs : List Int} (g : Good ps ws) {x : Nat} (hx : x < ps.length) (hl : leafB ps x = false) :
    kidF (fun y => (sumsT ps ws).getD y 0 * zs.getD y 0) (kidsT ps (x : Int)) - (sumsT ps ws).getD x 0 * zs.getD x 0 = driX ps (sumsT ps ws) zs ps.length x := by
  have h1 := sums_kids g hx
  rw [g.inner x hx hl, Int.zero_add] at h1
  rw [← sum_split x ps.length (Nat.le_refl _), ← h1, kidsT_eq, kidF_nodes _ _ ps.length _ (Nat.le_refl _)]
theorem sumTo_none {L : List Int} : ∀ k, (∀ y, y < k → L.getD y 0 = 0) → sumTo L k = 0 := by
  intro k
  induction k with
  | zero => intro _; rfl
  | succ k ih => intro h; rw [sumTo, ih (fun y hy => h y (by omega)), h k (by omega)]; rfl
theorem dri_leaf {ps S zs : List Int} {x : Nat} (hl : leafB ps x = true) : driX ps S zs ps.length x = 0 := by
  unfold driX
  exact sumTo_none _ (fun y hy => by rw [stepL_at hy, if_neg ((leafB_iff ps x).1 hl y hy)])
theorem gI_zeroL {b : Int} (h : 0 < b) : gI 0 b = b := by unfold gI; rw [Int.gcd_zero_left]; omega
theorem cut_zero {b : Int} (h : 0 < b) : cutN 0 b = 0 ∧ cutD 0 b = 1 := by
  unfold cutN cutD
  rw [gI_zeroL h]
  exact ⟨Int.zero_ediv _, Int.ediv_self (by omega)⟩
/-- The drift at a node. -/
def driA (ps ws zs : List Int) (x : Nat) : Int := cutN (driX ps (sumsT ps ws) zs ps.length x) ((sumsT ps ws).getD x 0)
def driB (ps ws zs : List Int) (x : Nat) : Int := cutD (driX ps (sumsT ps ws) zs ps.length x) ((sumsT ps ws).getD x 0)
theorem dri_leafAB {ps ws zs : List Int} (g : Good ps ws) {x : Nat} (hx : x < ps.length) (hl : leafB ps x = true) : driA ps ws zs x = 0 ∧ driB ps ws zs x = 1 := by
  unfold driA driB
  rw [dri_leaf hl]
  exact cut_zero (sums_pos g x hx)
theorem driAB_bd {ps ws zs : List Int} (p : Proc ps ws zs) {x : Nat} (hx : x < ps.length) : (-23016960 ≤ driA ps ws zs x ∧ driA ps ws zs x ≤ 23016960) ∧ 0 < driB ps ws zs x ∧ driB ps ws zs x ≤ 480 := by
  have h1 := driX_bd p hx (Nat.le_refl _)
  have h2 := sums_pos p.good x hx
  have h3 := (sumsT_bd p.good x hx).2
  have h4 := abs_cutN (a := driX ps (sumsT ps ws) zs ps.length x) (b := (sumsT ps ws).getD x 0) 23016960 (by omega) (by omega)
  have h5 := cutD_le (a := driX ps (sumsT ps ws) zs ps.length x) h2
  have h6 := cutD_pos (a := driX ps (sumsT ps ws) zs ps.length x) h2
  unfold driA driB
  omega
/-- What DriftsOf returns. -/
def driLen (ps ws zs : List Int) : Nat := if procB ps ws zs = true then ps.length else 0
def drisL (ps ws zs : List Int) : List Int := if procB ps ws zs = true then prL (driA ps ws zs) (driB ps ws zs) ps.length else []
theorem driLen_le (ps ws zs : List Int) : driLen ps ws zs ≤ 1048576 := by
  unfold driLen
  split
  · rename_i h
    have := (procB_iff.1 h).good.n24
    omega
  · omega
end Go.Proofs.Ytligidmkhbcpmac
