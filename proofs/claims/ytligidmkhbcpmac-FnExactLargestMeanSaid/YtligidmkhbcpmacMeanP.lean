/- The means of pays. No program is spoken of here. -/
import Derived.Test.YtligidmkhbcpmacPrsF
import Derived.Test.YtligidmkhbcpmacPayW
namespace Go.Proofs.Ytligidmkhbcpmac
open Go.RowKit
set_option linter.unusedVariables false
def prodT (ps ws vs : List Int) : List Int := upL ps (valsT ps ws vs) (ps.length - 1)
def meanN (ps ws vs : List Int) (x : Nat) : Int := cutN ((prodT ps ws vs).getD x 0) ((sumsT ps ws).getD x 0)
def meanD (ps ws vs : List Int) (x : Nat) : Int := cutD ((prodT ps ws vs).getD x 0) ((sumsT ps ws).getD x 0)
theorem prodT_len (ps ws vs : List Int) : (prodT ps ws vs).length = ps.length := by unfold prodT; rw [upL_len, valsT_len]
theorem prod_bd {ps ws vs : List Int} (p : Pay ps ws vs) {x : Nat} (hx : x < ps.length) : -479520 ≤ (prodT ps ws vs).getD x 0 ∧ (prodT ps ws vs).getD x 0 ≤ 479520 := by
  have h1 := (upL_abs (ParOk.of p.good) (valsT_len ps ws vs) (ps.length - 1) (by have := p.good.n1; omega)).2 x hx
  have h2 := valsT_sum (vs := vs) p.good 999 p.abs
  have h3 : ps.length * (20 * 999) ≤ 24 * (20 * 999) := Nat.mul_le_mul_right _ p.good.n24
  unfold prodT
  omega
theorem mean_bd {ps ws vs : List Int} (p : Pay ps ws vs) {x : Nat} (hx : x < ps.length) : (-479520 ≤ meanN ps ws vs x ∧ meanN ps ws vs x ≤ 479520) ∧ 0 < meanD ps ws vs x ∧ meanD ps ws vs x ≤ 480 := by
  have h1 := prod_bd p hx
  have h2 := sums_pos p.good x hx
  have h3 := (sumsT_bd p.good x hx).2
  have h4 := abs_cutN (a := (prodT ps ws vs).getD x 0) (b := (sumsT ps ws).getD x 0) 479520 h1 (by omega)
  have h5 := cutD_le (a := (prodT ps ws vs).getD x 0) h2
  have h6 := cutD_pos (a := (prodT ps ws vs).getD x 0) h2
  unfold meanN meanD
  omega
/-- What MeansOf returns. -/
def meanLen (ps ws vs : List Int) : Nat := if payB ps ws vs = true then ps.length else 0
def meanL (ps ws vs : List Int) : List Int := if payB ps ws vs = true then prL (meanN ps ws vs) (meanD ps ws vs) ps.length else []
theorem meanLen_le (ps ws vs : List Int) : meanLen ps ws vs ≤ 1048576 := by
  unfold meanLen
  split
  · rename_i h
    have := (payB_iff.1 h).good.n24
    omega
  · omega
end Go.Proofs.Ytligidmkhbcpmac
