/- Rows that are filled from the left. No program is spoken of here. -/
import Derived.Test.YtligidmkhbcpmacPrm
namespace Go.Proofs.Ytligidmkhbcpmac
set_option linter.unusedVariables false
/-- n numbers: the first k are those of a function, the others 0. -/
def fillL (f : Nat → Int) (n k : Nat) : List Int := (List.range n).map fun y => if y < k then f y else 0
theorem fill_len (f : Nat → Int) (n k : Nat) : (fillL f n k).length = n := by simp [fillL]
theorem fill_at {f : Nat → Int} {n k y : Nat} (hy : y < n) : (fillL f n k).getD y 0 = if y < k then f y else 0 := by
  unfold fillL
  rw [List.getD_eq_getElem?_getD, List.getElem?_map, List.getElem?_range hy]; rfl
theorem fill_zero (f : Nat → Int) (n : Nat) : fillL f n 0 = List.replicate n 0 := by
  apply List.ext_getElem
  · rw [fill_len, List.length_replicate]
  · intro i h1 h2
    simp only [fillL, List.getElem_map, List.getElem_range, List.getElem_replicate]
    rw [if_neg (by omega)]
theorem fill_set {f : Nat → Int} {n k : Nat} (hk : k < n) : (fillL f n k).set k (f k) = fillL f n (k + 1) := by
  apply List.ext_getElem
  · rw [List.length_set, fill_len, fill_len]
  · intro i h1 h2
    rw [List.getElem_set]
    simp only [fillL, List.getElem_map, List.getElem_range]
    by_cases h : k = i
    · subst h; rw [if_pos rfl, if_pos (by omega)]
    · rw [if_neg h]
      by_cases h3 : i < k
      · rw [if_pos h3, if_pos (by omega)]
      · rw [if_neg h3, if_neg (by omega)]
/-- The first k numbers of a function. -/
def preL (f : Nat → Int) (k : Nat) : List Int := (List.range k).map f
theorem pre_len (f : Nat → Int) (k : Nat) : (preL f k).length = k := by simp [preL]
theorem pre_succ (f : Nat → Int) (k : Nat) : preL f (k + 1) = preL f k ++ [f k] := by unfold preL; rw [List.range_succ, List.map_append]; rfl
theorem fill_pre (f : Nat → Int) (n : Nat) : fillL f n n = preL f n := by
  unfold fillL preL
  refine List.map_congr_left fun y hy => ?_
  rw [if_pos (List.mem_range.1 hy)]
end Go.Proofs.Ytligidmkhbcpmac
