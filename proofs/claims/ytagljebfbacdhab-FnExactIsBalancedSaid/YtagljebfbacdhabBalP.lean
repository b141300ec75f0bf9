/- Balanced lists are fair processes. No program is spoken of here. -/
import Derived.Test.YtagljebfbacdhabCapP
import Derived.Test.YtagljebfbacdhabSteP
namespace Go.Proofs.Ytagljebfbacdhab
open Go.RowKit
set_option linter.unusedVariables false
theorem cutN_zero {a b : Int} (h : cutN a b = 0) : a = 0 := by
  unfold cutN at h
  have hd : gI a b ∣ a := by unfold gI; exact Int.gcd_dvd_left ..
  have := Int.ediv_mul_cancel hd
  rw [h, Int.zero_mul] at this
  exact this.symm
def balAt (ps ws zs : List Int) (x : Nat) : Bool := leafB ps x || decide ((ownT (sumsT ps ws) zs ps.length).getD x 0 = kidT ps (ownT (sumsT ps ws) zs ps.length) x)
theorem bal_at {ps ws zs : List Int} (p : Proc ps ws zs) {x : Nat} (hx : x < ps.length) : steP true (driA ps ws zs x) = balAt ps ws zs x := by
  have g := p.good
  unfold balAt
  cases hl : leafB ps x
  · have h1 := dri_model (zs := zs) g hx hl
    have h2 : kidF (fun y => (sumsT ps ws).getD y 0 * zs.getD y 0) (kidsT ps (x : Int)) = kidT ps (ownT (sumsT ps ws) zs ps.length) x := by
      rw [← kid_model, kidsT_eq, kidF_nodes _ _ ps.length ps.length (Nat.le_refl _), kidF_nodes _ _ ps.length ps.length (Nat.le_refl _)]
      refine sumTo_congr _ (fun y hy => ?_)
      rw [List.getD_eq_getElem?_getD, List.getElem?_map, List.getElem?_range hy, List.getD_eq_getElem?_getD, List.getElem?_map, List.getElem?_range hy]
      simp only [Option.map_some, Option.getD_some]
      rw [ownT_at hy]
    rw [h2] at h1
    rw [Bool.false_or, ownT_at hx]
    unfold steP
    rw [if_pos rfl, Bool.eq_iff_iff, beq_iff_eq, decide_eq_true_iff]
    unfold driA
    rw [← h1]
    constructor
    · intro h; have := cutN_zero h; omega
    · intro h
      rw [h, Int.sub_self]
      exact (cut_zero (sums_pos g x hx)).1
  · rw [(dri_leafAB g hx hl).1]; rfl
theorem bal_no {ps ws zs : List Int} (p : Proc ps ws zs) {x : Nat} (hx : x < ps.length) (h : balAt ps ws zs x = false) : steB ps ws zs true = false := steB_no hx (by rw [bal_at p hx]; exact h)
theorem bal_yes {ps ws zs : List Int} (p : Proc ps ws zs) (h : ∀ x, x < ps.length → balAt ps ws zs x = true) : steB ps ws zs true = true := steB_yes (fun x hx => by rw [bal_at p hx]; exact h x hx)
end Go.Proofs.Ytagljebfbacdhab
