/- A fair process of pays, told by lists. No program is spoken of here. -/
import Derived.Test.YtadelnffjfiipaaMeanP
namespace Go.Proofs.Ytadelnffjfiipaa
open Go.RowKit
set_option linter.unusedVariables false
def numL (A : Nat → Int) (n : Nat) : List Int := (List.range n).map A
theorem numL_len (A : Nat → Int) (n : Nat) : (numL A n).length = n := by simp [numL]
theorem numL_succ (A : Nat → Int) (n : Nat) : numL A (n + 1) = numL A n ++ [A n] := by unfold numL; rw [List.range_succ, List.map_append]; rfl
theorem numL_mem {A : Nat → Int} {P : Int → Prop} {n : Nat} (h : ∀ j, j < n → P (A j)) : ∀ z ∈ numL A n, P z := by
  intro z hz
  unfold numL at hz
  obtain ⟨j, hj, rfl⟩ := List.mem_map.1 hz
  exact h j (List.mem_range.1 hj)
def halfN (A : Nat → Int) (n k : Nat) : List Int := numL A k ++ List.replicate (n - k) 0
theorem halfN_len (A : Nat → Int) {n k : Nat} (h : k ≤ n) : (halfN A n k).length = n := by
  unfold halfN; rw [List.length_append, numL_len, List.length_replicate]; omega
theorem halfN_zero (A : Nat → Int) (n : Nat) : halfN A n 0 = List.replicate n 0 := by simp [halfN, numL]
theorem halfN_all (A : Nat → Int) {n k : Nat} (h : n ≤ k) : halfN A n k = numL A k := by
  unfold halfN; rw [show n - k = 0 by omega]; simp
theorem halfN_set (A : Nat → Int) {n k : Nat} (h : k < n) : (halfN A n k).set k (A k) = halfN A n (k + 1) := by
  unfold halfN
  have hl := numL_len A k
  obtain ⟨m, hm⟩ : ∃ m, n - k = m + 1 := ⟨n - k - 1, by omega⟩
  rw [List.set_append_right _ _ (by omega), hl, Nat.sub_self, hm, show n - (k + 1) = m by omega, numL_succ, List.append_assoc]
  rfl
theorem halfN_new (A : Nat → Int) {n k : Nat} (h : k < n) : (halfN A n k)[k]? = some 0 := by
  unfold halfN
  rw [List.getElem?_append_right (by rw [numL_len]; omega), numL_len, Nat.sub_self, List.getElem?_replicate, if_pos (by omega)]
/-- Whether all means are whole. -/
def fairB (ps ws vs : List Int) : Bool := payB ps ws vs && decide (∀ x, x < ps.length → meanD ps ws vs x = 1)
theorem fair_no {ps ws vs : List Int} (h : payB ps ws vs = false) : fairB ps ws vs = false := by unfold fairB; rw [h]; rfl
theorem fair_bad {ps ws vs : List Int} {x : Nat} (hx : x < ps.length) (h : meanD ps ws vs x ≠ 1) : fairB ps ws vs = false := by
  unfold fairB
  rw [Bool.and_eq_false_iff]
  exact .inr (decide_eq_false (fun k => h (k x hx)))
theorem fair_yes {ps ws vs : List Int} (hp : payB ps ws vs = true) (h : ∀ x, x < ps.length → meanD ps ws vs x = 1) : fairB ps ws vs = true := by
  unfold fairB
  rw [hp, Bool.true_and]
  exact decide_eq_true h
def fairL (ps ws vs : List Int) : List Int := if fairB ps ws vs = true then numL (meanN ps ws vs) ps.length else []
theorem fairL_no {ps ws vs : List Int} (h : fairB ps ws vs = false) : fairL ps ws vs = [] := by unfold fairL; rw [h]; rfl
theorem fairL_yes {ps ws vs : List Int} (h : fairB ps ws vs = true) : fairL ps ws vs = numL (meanN ps ws vs) ps.length := by unfold fairL; rw [if_pos h]
theorem fair_pay {ps ws vs : List Int} (h : fairB ps ws vs = true) : payB ps ws vs = true := by
  unfold fairB at h
  exact (Bool.and_eq_true_iff.1 h).1
theorem fair_len (ps ws vs : List Int) : (fairL ps ws vs).length ≤ 1048576 := by
  unfold fairL
  split
  · rename_i h
    have := (payB_iff.1 (fair_pay h)).good.n24
    rw [numL_len]
    omega
  · simp
end Go.Proofs.Ytadelnffjfiipaa
