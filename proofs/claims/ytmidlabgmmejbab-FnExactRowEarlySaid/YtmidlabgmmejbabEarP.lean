/- What a row is worth that may be ended early, told by lists. No program is spoken of here. -/
import Derived.Test.YtmidlabgmmejbabRwP
namespace Go.Proofs.Ytmidlabgmmejbab
open Go.RowKit
set_option linter.unusedVariables false
/-- The table has a list of t + 1 numbers for each t. -/
def tabB (f : Nat → List Int) (k : Nat) : Bool := (List.range k).all fun t => decide (((f t).length : Int) = ((t : Int) + 1)) && withinB 999 (f t)
def tabOk (n u d : Int) (R : Nat) (f : Nat → List Int) : Bool := rowOk n u d && (decide ((R : Int) = n + 1) && tabB f R)
theorem tabB_at {f : Nat → List Int} {k t : Nat} (h : tabB f k = true) (ht : t < k) : (f t).length = t + 1 ∧ withinB 999 (f t) = true := by
  unfold tabB at h
  rw [List.all_eq_true] at h
  have := h t (List.mem_range.2 ht)
  rw [Bool.and_eq_true, decide_eq_true_iff] at this
  exact ⟨by omega, this.2⟩
theorem tabB_next {f : Nat → List Int} {k : Nat} (h : tabB f k = true) (hk : (decide (((f k).length : Int) = ((k : Int) + 1)) && withinB 999 (f k)) = true) : tabB f (k + 1) = true := by
  unfold tabB at h ⊢
  rw [List.range_succ, List.all_append, h]
  simpa using hk
theorem tabB_no {f : Nat → List Int} {k R : Nat} (hR : k < R) (hk : (decide (((f k).length : Int) = ((k : Int) + 1)) && withinB 999 (f k)) = false) : tabB f R = false := by
  cases hb : tabB f R
  · rfl
  · unfold tabB at hb
    rw [List.all_eq_true] at hb
    have := hb k (List.mem_range.2 hR)
    rw [hk] at this
    cases this
theorem tabB_zero (f : Nat → List Int) : tabB f 0 = true := rfl
/-- The worth j steps before the end, times the power of u + d for them. -/
def eaF (u d : Int) (f : Nat → List Int) (n : Nat) : Nat → Nat → Int
  | 0, k => (f n).getD k 0
  | j + 1, k => max ((f (n - (j + 1))).getD k 0 * (u + d) ^ (j + 1)) (eaF u d f n j (k + 1) * d + eaF u d f n j k * u)
theorem ea_cell {m x : Int} {B : Nat} (h1 : x.natAbs ≤ 999) (hm : 0 ≤ m ∧ m ≤ B) : (x * m).natAbs ≤ 999 * B := by
  rw [Int.natAbs_mul]
  exact Nat.mul_le_mul h1 (by omega)
theorem ea_pow {u d : Int} (hu : 1 ≤ u ∧ u ≤ 9) (hd : 1 ≤ d ∧ d ≤ 9) : ∀ j, 0 ≤ (u + d) ^ j ∧ (u + d) ^ j ≤ ((18 ^ j : Nat) : Int)
  | 0 => by simp
  | j + 1 => by
    obtain ⟨h1, h2⟩ := ea_pow hu hd j
    rw [Int.pow_succ, Nat.pow_succ, Int.natCast_mul]
    exact ⟨Int.mul_nonneg h1 (by omega), Int.mul_le_mul h2 (by omega) (by omega) (by omega)⟩
theorem ea_bd {u d : Int} {f : Nat → List Int} {n : Nat} (hu : 1 ≤ u ∧ u ≤ 9) (hd : 1 ≤ d ∧ d ≤ 9) (hf : tabB f (n + 1) = true) : ∀ j k, j ≤ n → k ≤ n - j → (eaF u d f n j k).natAbs ≤ 999 * 18 ^ j
  | 0, k, hj, hk => by
    obtain ⟨h1, h2⟩ := tabB_at hf (t := n) (by omega)
    have := within_at h2 (i := k) (by omega)
    unfold eaF
    omega
  | j + 1, k, hj, hk => by
    have b1 := ea_bd hu hd hf j (k + 1) (by omega) (by omega)
    have b2 := ea_bd hu hd hf j k (by omega) (by omega)
    have m1 := rv_mul b1 hd
    have m2 := rv_mul b2 hu
    obtain ⟨h1, h2⟩ := tabB_at hf (t := n - (j + 1)) (by omega)
    have h3 := within_at h2 (i := k) (by omega)
    have m3 := ea_cell (x := (f (n - (j + 1))).getD k 0) (by omega) (ea_pow hu hd (j + 1))
    have e : 18 ^ (j + 1) = 18 ^ j * 18 := Nat.pow_succ ..
    unfold eaF
    rw [e] at m3 ⊢
    generalize 18 ^ j = P at *
    have hx : (eaF u d f n j (k + 1) * d + eaF u d f n j k * u).natAbs ≤ 999 * (P * 18) := by
      have := Int.natAbs_add_le (eaF u d f n j (k + 1) * d) (eaF u d f n j k * u)
      omega
    rcases Int.le_total ((f (n - (j + 1))).getD k 0 * (u + d) ^ (j + 1)) (eaF u d f n j (k + 1) * d + eaF u d f n j k * u) with h | h
    · rw [Int.max_eq_right h]; exact hx
    · rw [Int.max_eq_left h]; exact m3
theorem pow18_le : ∀ j, j < 5 → 18 ^ j ≤ 104976 := by decide
theorem ea_small {u d : Int} {f : Nat → List Int} {n : Nat} (hu : 1 ≤ u ∧ u ≤ 9) (hd : 1 ≤ d ∧ d ≤ 9) (hn : n ≤ 4) (hf : tabB f (n + 1) = true) {j k : Nat} (hj : j ≤ n) (hk : k ≤ n - j) : (eaF u d f n j k).natAbs ≤ 104871024 := by
  have h1 := ea_bd hu hd hf j k hj hk
  have h2 := pow18_le j (by omega)
  have h3 : 999 * 18 ^ j ≤ 999 * 104976 := Nat.mul_le_mul_left _ h2
  omega
/-- The list in the middle of a step: the first numbers are those of the next one. -/
structure EaSt (u d : Int) (f : Nat → List Int) (n j ups : Nat) (W : List Int) : Prop where
  len : W.length = n + 1
  done : ∀ i, i < ups → W.getD i 0 = eaF u d f n (j + 1) i
  rest : ∀ i, ups ≤ i → i ≤ n - j → W.getD i 0 = eaF u d f n j i
theorem ea_start {u d : Int} {f : Nat → List Int} {n : Nat} (h : (f n).length = n + 1) : EaSt u d f n 0 0 (f n) := ⟨h, fun i hi => by omega, fun i _ _ => rfl⟩
theorem getD_set_same {W : List Int} {k : Nat} (x : Int) (h : k < W.length) : (W.set k x).getD k 0 = x := by
  rw [List.getD_eq_getElem?_getD, List.getElem?_set_self h]; rfl
theorem getD_set_far {W : List Int} {k i : Nat} (x : Int) (h : k ≠ i) : (W.set k x).getD i 0 = W.getD i 0 := by
  rw [List.getD_eq_getElem?_getD, List.getElem?_set_ne h, ← List.getD_eq_getElem?_getD]
theorem ea_step {u d : Int} {f : Nat → List Int} {n j k : Nat} {W : List Int} (s : EaSt u d f n j k W) (hj : j + 1 ≤ n) (hk : k ≤ n - (j + 1)) : EaSt u d f n j (k + 1) (W.set k (eaF u d f n (j + 1) k)) := by
  have hl := s.len
  refine ⟨by rw [List.length_set]; exact hl, fun i hi => ?_, fun i h1 h2 => ?_⟩
  · by_cases h : i = k
    · subst h; exact getD_set_same _ (by omega)
    · rw [getD_set_far _ (by omega)]; exact s.done i (by omega)
  · rw [getD_set_far _ (by omega)]; exact s.rest i (by omega) h2
theorem ea_next {u d : Int} {f : Nat → List Int} {n j : Nat} {W : List Int} (s : EaSt u d f n j (n - j) W) (hj : j < n) : EaSt u d f n (j + 1) 0 W :=
  ⟨s.len, fun i hi => by omega, fun i _ h2 => s.done i (by omega)⟩
theorem ea_unf (u d : Int) (f : Nat → List Int) (n j k : Nat) : eaF u d f n (j + 1) k = max ((f (n - (j + 1))).getD k 0 * (u + d) ^ (j + 1)) (eaF u d f n j (k + 1) * d + eaF u d f n j k * u) := rfl
theorem ea_cast (U D k : Nat) : ((U : Int) + (D : Int)) ^ k = (((U + D) ^ k : Nat) : Int) := by rw [Int.natCast_pow, Int.natCast_add]
end Go.Proofs.Ytmidlabgmmejbab
