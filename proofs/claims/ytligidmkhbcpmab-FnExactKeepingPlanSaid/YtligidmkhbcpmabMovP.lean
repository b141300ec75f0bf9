/- A unit to each side, and the sums of two spreads: their lists. No program is spoken of here. -/
import Derived.Test.YtligidmkhbcpmabShpP
namespace Go.Proofs.Ytligidmkhbcpmab
set_option linter.unusedVariables false
/-- The list of MoveApart. -/
def mvL (zs : List Int) (s : Int) : List Int := if mvB zs s = true then mvT zs s.toNat else []
theorem mvL_len (zs : List Int) (s : Int) : (mvL zs s).length ≤ zs.length := by
  unfold mvL
  split
  · simp [mvT]
  · simp
/-- What MoveApart needs. -/
structure Mov (zs : List Int) (j : Nat) : Prop where
  p : Spr zs
  hi : j + 2 < zs.length
  two : 2 ≤ zs.getD (j + 1) 0
theorem mvB_mk {zs : List Int} {s : Int} (h : mvB zs s = true) : ∃ j : Nat, s = (j : Int) + 1 ∧ Mov zs j := by
  unfold mvB at h
  rw [Bool.and_eq_true, Bool.and_eq_true, decide_eq_true_iff, decide_eq_true_iff, sprB_iff] at h
  obtain ⟨a, ⟨b, c⟩, d⟩ := h
  refine ⟨s.toNat - 1, by omega, a, by omega, ?_⟩
  rw [show s.toNat - 1 + 1 = s.toNat by omega]; exact d
theorem mvT_eq {zs : List Int} {j : Nat} (m : Mov zs j) : mvT zs (j + 1) = ((zs.set j (zs.getD j 0 + 1)).set (j + 1) (zs.getD (j + 1) 0 - 2)).set (j + 2) (zs.getD (j + 2) 0 + 1) := by
  unfold mvT
  simp only [Nat.add_sub_cancel]
  rw [getD_setY, if_neg (by omega), getD_setY, if_neg (by omega), getD_setY, if_neg (by omega)]
/-- The sums so far. -/
def mxF (ps qs : List Int) (k : Nat) : List Int := (List.range ps.length).map fun i => if i < k then ps.getD i 0 + qs.getD i 0 else ps.getD i 0
theorem mxF_len (ps qs : List Int) (k : Nat) : (mxF ps qs k).length = ps.length := by simp [mxF]
theorem mxF_at {ps qs : List Int} {k i : Nat} (h : i < ps.length) : (mxF ps qs k).getD i 0 = if i < k then ps.getD i 0 + qs.getD i 0 else ps.getD i 0 := by
  unfold mxF; rw [map_getD h]
theorem mxF_zero (ps qs : List Int) : mxF ps qs 0 = ps := by
  refine ext_getD (by rw [mxF_len]) (fun j hj => ?_)
  rw [mxF_len] at hj
  rw [mxF_at hj, if_neg (by omega)]
theorem mxF_all (ps qs : List Int) : mxF ps qs ps.length = mxT ps qs := by
  refine ext_getD (by rw [mxF_len, mxT_len]) (fun j hj => ?_)
  rw [mxF_len] at hj
  rw [mxF_at hj, if_pos hj, mxT_at hj]
theorem mxF_set {ps qs : List Int} {k : Nat} (h : k < ps.length) : (mxF ps qs k).set k (ps.getD k 0 + qs.getD k 0) = mxF ps qs (k + 1) := by
  refine ext_getD (by rw [List.length_set, mxF_len, mxF_len]) (fun j hj => ?_)
  rw [List.length_set, mxF_len] at hj
  rw [getD_setY, mxF_len, mxF_at hj, mxF_at hj]
  by_cases e : k = j
  · subst e; rw [if_pos ⟨rfl, hj⟩, if_pos (by omega)]
  · rw [if_neg (fun c => e c.1)]
    by_cases c : j < k
    · rw [if_pos c, if_pos (by omega)]
    · rw [if_neg c, if_neg (by omega)]
def mixL (ps qs : List Int) : List Int := if mixB ps qs = true then mxT ps qs else []
theorem mixL_len (ps qs : List Int) : (mixL ps qs).length ≤ ps.length := by
  unfold mixL
  split
  · rw [mxT_len]; exact Nat.le_refl _
  · simp
end Go.Proofs.Ytligidmkhbcpmab
