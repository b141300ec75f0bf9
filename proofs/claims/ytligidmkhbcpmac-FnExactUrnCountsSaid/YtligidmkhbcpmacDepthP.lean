/- Plain mathematics of depths. No program is spoken of here. -/
import Derived.Test.YtligidmkhbcpmacTreeP
namespace Go.Proofs.Ytligidmkhbcpmac
set_option linter.unusedVariables false
/-- The depths of the first k nodes. -/
def depthsL (ps : List Int) : Nat → List Int
  | 0 => []
  | k + 1 => depthsL ps k ++ [if k = 0 then 0 else (depthsL ps k).getD (ps.getD k 0).toNat 0 + 1]
theorem depthsL_len (ps : List Int) (k : Nat) : (depthsL ps k).length = k := by
  induction k with
  | zero => rfl
  | succ k ih => simp [depthsL, ih]
theorem getD_app_left {L M : List Int} {j : Nat} (h : j < L.length) : (L ++ M).getD j 0 = L.getD j 0 := by
  rw [List.getD_eq_getElem?_getD, List.getElem?_append_left h, ← List.getD_eq_getElem?_getD]
theorem getD_app_right {L : List Int} {x : Int} : (L ++ [x]).getD L.length 0 = x := by
  rw [List.getD_eq_getElem?_getD, List.getElem?_append_right (Nat.le_refl _), Nat.sub_self]; rfl
theorem depthsL_bd (ps : List Int) (k : Nat) : ∀ j, j < k → 0 ≤ (depthsL ps k).getD j 0 ∧ (depthsL ps k).getD j 0 ≤ (k : Int) := by
  induction k with
  | zero => intro j hj; omega
  | succ k ih =>
    intro j hj
    have hl := depthsL_len ps k
    by_cases h : j < k
    · rw [depthsL, getD_app_left (by omega)]; have := ih j h; omega
    · obtain rfl : j = k := by omega
      rw [depthsL]
      have e : ∀ x : Int, (depthsL ps j ++ [x]).getD j 0 = x := fun x => by
        have := getD_app_right (L := depthsL ps j) (x := x); rwa [hl] at this
      rw [e]
      split
      · omega
      · by_cases h2 : (ps.getD j 0).toNat < j
        · have := ih _ h2; omega
        · rw [List.getD_eq_getElem?_getD, List.getElem?_eq_none (by omega)]; simp; omega
/-- What a row of depths holds while it is filled. -/
def depthsH (ps : List Int) (k : Nat) : List Int := depthsL ps k ++ List.replicate (ps.length - k) 0
theorem depthsH_len (ps : List Int) {k : Nat} (h : k ≤ ps.length) : (depthsH ps k).length = ps.length := by
  unfold depthsH; rw [List.length_append, depthsL_len, List.length_replicate]; omega
theorem depthsH_one (ps : List Int) (h : 1 ≤ ps.length) : depthsH ps 1 = List.replicate ps.length 0 := by
  unfold depthsH
  obtain ⟨m, hm⟩ : ∃ m, ps.length = m + 1 := ⟨ps.length - 1, by omega⟩
  rw [hm, show m + 1 - 1 = m by omega]
  rfl
theorem depthsH_all (ps : List Int) : depthsH ps ps.length = depthsL ps ps.length := by simp [depthsH]
theorem depthsH_at (ps : List Int) {k j : Nat} (h : j < k) : (depthsH ps k).getD j 0 = (depthsL ps k).getD j 0 := by
  unfold depthsH; rw [getD_app_left (by rw [depthsL_len]; exact h)]
theorem depthsH_set (ps : List Int) {k : Nat} (h0 : 0 < k) (h : k < ps.length) : (depthsH ps k).set k ((depthsL ps k).getD (ps.getD k 0).toNat 0 + 1) = depthsH ps (k + 1) := by
  unfold depthsH
  have hl := depthsL_len ps k
  rw [List.set_append_right _ _ (by omega), hl, Nat.sub_self, depthsL, if_neg (by omega), List.append_assoc]
  congr 1
  obtain ⟨m, hm⟩ : ∃ m, ps.length - k = m + 1 := ⟨ps.length - k - 1, by omega⟩
  rw [hm, show ps.length - (k + 1) = m by omega]
  rfl
def depthsT (ps : List Int) : List Int := depthsL ps ps.length
theorem depthsT_len (ps : List Int) : (depthsT ps).length = ps.length := depthsL_len _ _
theorem depthsT_bd (ps : List Int) : ∀ j, j < ps.length → 0 ≤ (depthsT ps).getD j 0 ∧ (depthsT ps).getD j 0 ≤ (ps.length : Int) := depthsL_bd ps ps.length
/-- A depth stays as it is when more nodes are told. -/
theorem depthsL_more (ps : List Int) {j k m : Nat} (h : j < k) (hm : k ≤ m) : (depthsL ps m).getD j 0 = (depthsL ps k).getD j 0 := by
  induction m with
  | zero => omega
  | succ m ih =>
    rcases Nat.lt_or_ge k (m + 1) with h2 | h2
    · rw [depthsL, getD_app_left (by rw [depthsL_len]; omega)]; exact ih (by omega)
    · obtain rfl : k = m + 1 := by omega
      rfl
theorem depthsT_step (ps : List Int) {x : Nat} (h0 : 0 < x) (hx : x < ps.length) (hp : 0 ≤ ps.getD x 0 ∧ ps.getD x 0 < (x : Int)) : (depthsT ps).getD x 0 = (depthsT ps).getD (ps.getD x 0).toNat 0 + 1 := by
  unfold depthsT
  rw [depthsL_more ps (j := x) (k := x + 1) (by omega) (by omega), depthsL_more ps (j := (ps.getD x 0).toNat) (k := x) (by omega) (by omega), depthsL, if_neg (by omega)]
  have := getD_app_right (L := depthsL ps x) (x := (depthsL ps x).getD (ps.getD x 0).toNat 0 + 1)
  rwa [depthsL_len] at this
theorem depthsT_zero (ps : List Int) (h : 1 ≤ ps.length) : (depthsT ps).getD 0 0 = 0 := by
  unfold depthsT
  rw [depthsL_more ps (j := 0) (k := 1) (by omega) (by omega)]; rfl
end Go.Proofs.Ytligidmkhbcpmac
