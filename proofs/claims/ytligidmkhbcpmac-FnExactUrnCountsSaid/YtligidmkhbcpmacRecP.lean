/- Rows of counts of records, step by step. No program is spoken of here. -/
import Derived.Test.YtligidmkhbcpmacCrdP
import Derived.Test.YtligidmkhbcpmacFill
namespace Go.Proofs.Ytligidmkhbcpmac
set_option linter.unusedVariables false
theorem pre_at {f : Nat → Int} {n j : Nat} (h : j < n) : (preL f n).getD j 0 = f j := by
  unfold preL
  rw [List.getD_eq_getElem?_getD, List.getElem?_map, List.getElem?_range h]; rfl
theorem pre_congr {f g : Nat → Int} {n : Nat} (h : ∀ i, i < n → f i = g i) : preL f n = preL g n := by
  unfold preL
  exact List.map_congr_left fun i hi => h i (List.mem_range.1 hi)
theorem pre_set {f : Nat → Int} {n j : Nat} (x : Int) : (preL f n).set j x = preL (fun i => if i = j then x else f i) n := by
  apply List.ext_getElem
  · simp [preL]
  · intro i h1 h2
    rw [List.getElem_set]
    simp only [preL, List.getElem_map, List.getElem_range]
    by_cases h : j = i
    · rw [if_pos h, if_pos h.symm]
    · rw [if_neg h, if_neg (fun e => h e.symm)]
theorem pre_zero (n : Nat) : List.replicate n (0 : Int) = preL (fun _ => 0) n := by
  apply List.ext_getElem
  · simp [preL]
  · intro i h1 h2
    simp [preL]
/-- One card more, from above: the cells behind r are told anew. -/
def upF (c r : Nat) : Nat → Int := fun i => if r < i then reF (c + 1) i else reF c i
theorem up_start {c n : Nat} (hc : c < 13) (hn : n ≤ 14) : preL (reF c) n = preL (upF c (c + 1)) n := by
  refine pre_congr fun i hi => ?_
  unfold upF
  split
  · rw [re_big c (by omega) i (by omega) (by omega), re_big (c + 1) (by omega) i (by omega) (by omega)]
  · rfl
theorem up_at {c r n : Nat} (h : r < n) : (preL (upF c r) n).getD r 0 = reF c r := by
  rw [pre_at h]; unfold upF; rw [if_neg (Nat.lt_irrefl r)]
theorem up_at1 {c r n : Nat} (h : r + 1 < n) : (preL (upF c (r + 1)) n).getD r 0 = reF c r := by
  rw [pre_at (by omega)]; unfold upF; rw [if_neg (by omega)]
theorem up_set {c r n : Nat} : (preL (upF c (r + 1)) n).set (r + 1) (reF c (r + 1) * (c : Int) + reF c r) = preL (upF c r) n := by
  rw [pre_set]
  refine pre_congr fun i hi => ?_
  unfold upF
  by_cases h : i = r + 1
  · subst h; rw [if_pos rfl, if_pos (by omega)]; rfl
  · rw [if_neg h]
    by_cases h2 : r + 1 < i
    · rw [if_pos h2, if_pos (by omega)]
    · rw [if_neg h2, if_neg (by omega)]
theorem up_end {c n : Nat} : (preL (upF c 0) n).set 0 (reF c 0 * (c : Int)) = preL (reF (c + 1)) n := by
  rw [pre_set]
  refine pre_congr fun i hi => ?_
  unfold upF
  by_cases h : i = 0
  · subst h; rw [if_pos rfl]; rfl
  · rw [if_neg h, if_pos (by omega)]
theorem re_start (n : Nat) : (List.replicate n (0 : Int)).set 0 1 = preL (reF 0) n := by
  rw [pre_zero, pre_set]
  refine pre_congr fun i hi => ?_
  by_cases h : i = 0
  · subst h; rfl
  · rw [if_neg h]
    obtain ⟨j, rfl⟩ : ∃ j, i = j + 1 := ⟨i - 1, by omega⟩
    rfl
/-- One card more, from below: r cells are told, one more has what the one before it sends. -/
def dnF (c r : Nat) : Nat → Int := fun i => if i < r then reF (c + 1) i else if i = r ∧ 0 < r then reF c (r - 1) else 0
def mdF (c r : Nat) : Nat → Int := fun i => if i ≤ r then reF (c + 1) i else 0
def seF (c r : Nat) : Int := if 0 < r then reF c (r - 1) else 0
theorem dn_zero (c n : Nat) : List.replicate n (0 : Int) = preL (dnF c 0) n := by
  rw [pre_zero]
  refine pre_congr fun i hi => ?_
  unfold dnF
  rw [if_neg (by omega), if_neg (by omega)]
theorem dn_at {c r n : Nat} (h : r < n) : (preL (dnF c r) n).getD r 0 = seF c r := by
  rw [pre_at h]; unfold dnF seF
  rw [if_neg (Nat.lt_irrefl r)]
  by_cases h2 : 0 < r
  · rw [if_pos ⟨rfl, h2⟩, if_pos h2]
  · rw [if_neg (fun e => h2 e.2), if_neg h2]
theorem se_add (c r : Nat) : seF c r + (c : Int) * reF c r = reF (c + 1) r := by
  unfold seF
  cases r with
  | zero => rw [if_neg (Nat.lt_irrefl 0), Int.mul_comm]; show 0 + reF c 0 * (c : Int) = reF c 0 * (c : Int); rw [Int.zero_add]
  | succ r => rw [if_pos (by omega)]; show _ = reF c (r + 1) * (c : Int) + reF c r; rw [Int.mul_comm, Nat.add_sub_cancel]; omega
theorem dn_set {c r n : Nat} : (preL (dnF c r) n).set r (seF c r + (c : Int) * reF c r) = preL (mdF c r) n := by
  rw [pre_set, se_add]
  refine pre_congr fun i hi => ?_
  unfold dnF mdF
  by_cases h : i = r
  · subst h; rw [if_pos rfl, if_pos (Nat.le_refl _)]
  · rw [if_neg h]
    by_cases h2 : i < r
    · rw [if_pos h2, if_pos (by omega)]
    · rw [if_neg h2, if_neg (fun e => h e.1), if_neg (by omega)]
theorem md_at {c r n : Nat} (h : r + 1 < n) : (preL (mdF c r) n).getD (r + 1) 0 = 0 := by
  rw [pre_at h]; unfold mdF; rw [if_neg (by omega)]
theorem md_set {c r n : Nat} : (preL (mdF c r) n).set (r + 1) (reF c r) = preL (dnF c (r + 1)) n := by
  rw [pre_set]
  refine pre_congr fun i hi => ?_
  unfold dnF mdF
  by_cases h : i = r + 1
  · subst h; rw [if_pos rfl, if_neg (by omega), if_pos ⟨rfl, by omega⟩]; rfl
  · rw [if_neg h]
    by_cases h2 : i ≤ r
    · rw [if_pos h2, if_pos (by omega)]
    · rw [if_neg h2, if_neg (by omega), if_neg (fun e => h e.1)]
theorem dn_end {c : Nat} (hc : c < 13) : preL (dnF c (c + 1)) (c + 2) = preL (reF (c + 1)) (c + 2) := by
  refine pre_congr fun i hi => ?_
  unfold dnF
  by_cases h2 : i < c + 1
  · rw [if_pos h2]
  · have : i = c + 1 := by omega
    subst this
    rw [if_neg h2, if_pos ⟨rfl, by omega⟩]
    show reF c c = reF c (c + 1) * (c : Int) + reF c c
    rw [re_big c (by omega) (c + 1) (by omega) (by omega)]
    omega
def reL (k : Nat) : List Int := preL (reF k) (k + 1)
theorem reL_zero : reL 0 = [1] := by decide
theorem se_bd {c r : Nat} (hc : c < 13) (hr : r < 14) : 0 ≤ seF c r ∧ seF c r ≤ 479001600 := by
  unfold seF
  split
  · exact re_bd c hc (r - 1) (by omega)
  · omega
end Go.Proofs.Ytligidmkhbcpmac
