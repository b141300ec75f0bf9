/- A number put to its place among rising ones. No program is spoken of here. -/
import Derived.Test.YtfpckfameebdnaaEvP
namespace Go.Proofs.Ytfpckfameebdnaa
set_option linter.unusedVariables false
/-- The nodes from a on that a test takes. -/
def restW (p : Nat → Bool) (a : Nat) : Nat → List Int
  | 0 => []
  | m + 1 => restW p a m ++ (if a ≤ m ∧ p m = true then [(m : Int)] else [])
theorem restW_low (p : Nat → Bool) (a : Nat) : ∀ m, m ≤ a → restW p a m = [] := by
  intro m
  induction m with
  | zero => intro _; rfl
  | succ m ih => intro h; rw [restW, ih (by omega), if_neg (by omega)]; rfl
theorem restW_ge {p : Nat → Bool} {a : Nat} : ∀ m, ∀ z ∈ restW p a m, (a : Int) ≤ z := by
  intro m
  induction m with
  | zero => intro z hz; cases hz
  | succ m ih =>
    intro z hz
    rw [restW] at hz
    rcases List.mem_append.1 hz with h | h
    · exact ih z h
    · split at h
      · rename_i hc; simp at h; omega
      · cases h
theorem restW_congr {p q : Nat → Bool} {a : Nat} : ∀ m, (∀ x, a ≤ x → x < m → p x = q x) → restW p a m = restW q a m := by
  intro m
  induction m with
  | zero => intro _; rfl
  | succ m ih =>
    intro h
    rw [restW, restW, ih (fun x h1 h2 => h x h1 (by omega))]
    by_cases ha : a ≤ m
    · rw [h m ha (by omega)]
    · rw [if_neg (by omega), if_neg (by omega)]
theorem nodesW_split (p : Nat → Bool) (x : Nat) : ∀ m, x < m → nodesW p m = nodesW p x ++ (if p x = true then [(x : Int)] else []) ++ restW p (x + 1) m := by
  intro m
  induction m with
  | zero => intro h; omega
  | succ m ih =>
    intro h
    rcases Nat.lt_or_ge x m with h1 | h1
    · rw [restW]
      cases hp : p m
      · rw [nodesW_no hp, ih h1]; simp
      · rw [nodesW_yes hp, ih h1, if_pos (show x + 1 ≤ m ∧ true = true from ⟨by omega, rfl⟩)]; simp
    · obtain rfl : x = m := by omega
      rw [restW_low p (x + 1) (x + 1) (by omega), List.append_nil]
      cases hp : p x
      · rw [nodesW_no hp]; simp
      · rw [nodesW_yes hp]; simp
theorem nodesW_lt {p : Nat → Bool} {n : Nat} : ∀ z ∈ nodesW p n, z < (n : Int) := by
  intro z hz
  obtain ⟨x, rfl, hx, _⟩ := nodesW_mem hz
  omega
/-- How many numbers at the front are less. -/
def lessN (l : List Int) (n : Int) : Nat := (l.takeWhile fun z => decide (z < n)).length
/-- A number put to its place, once. -/
def putL (l : List Int) (n : Int) : List Int := if lessN l n < l.length ∧ l.getD (lessN l n) 0 = n then l else l.take (lessN l n) ++ [n] ++ l.drop (lessN l n)
theorem less_of {l : List Int} {n : Int} : ∀ k, k ≤ l.length → (∀ j, j < k → l.getD j 0 < n) → (k < l.length → n ≤ l.getD k 0) → lessN l n = k := by
  induction l with
  | nil => intro k hk _ _; simp at hk; subst hk; rfl
  | cons a t ih =>
    intro k hk h1 h2
    unfold lessN
    rw [List.takeWhile_cons]
    cases k with
    | zero =>
      have := h2 (by simp)
      simp at this
      rw [if_neg (by simp; omega)]; rfl
    | succ k =>
      have h0 := h1 0 (by omega)
      simp at h0
      rw [if_pos (by simpa using h0), List.length_cons]
      have := ih k (by simpa using hk) (fun j hj => by have := h1 (j + 1) (by omega); simpa using this) (fun h => by have := h2 (by simpa using h); simpa using this)
      unfold lessN at this
      rw [this]
theorem less_split {A B : List Int} {n : Int} (ha : ∀ z ∈ A, z < n) (hb : ∀ z ∈ B, n ≤ z) : lessN (A ++ B) n = A.length := by
  refine less_of A.length (by simp) (fun j hj => ?_) (fun h => ?_)
  · rw [List.getD_eq_getElem?_getD, List.getElem?_append_left hj, List.getElem?_eq_getElem hj]
    exact ha _ (List.getElem_mem hj)
  · rw [List.length_append] at h
    rw [List.getD_eq_getElem?_getD, List.getElem?_append_right (Nat.le_refl _), Nat.sub_self, List.getElem?_eq_getElem (by omega)]
    exact hb _ (List.getElem_mem _)
theorem put_nodes (p : Nat → Bool) {x m : Nat} (h : x < m) : putL (nodesW p m) (x : Int) = nodesW (fun y => p y || decide (y = x)) m := by
  have e1 := nodesW_split p x m h
  have e2 := nodesW_split (fun y => p y || decide (y = x)) x m h
  have c1 : nodesW (fun y => p y || decide (y = x)) x = nodesW p x := nodesW_congr fun y hy => by
    have : decide (y = x) = false := by simp; omega
    rw [this, Bool.or_false]
  have c2 : restW (fun y => p y || decide (y = x)) (x + 1) m = restW p (x + 1) m := restW_congr m fun y hy _ => by
    have : decide (y = x) = false := by simp; omega
    rw [this, Bool.or_false]
  rw [c1, c2, if_pos (by simp)] at e2
  rw [e2, e1]
  have hb1 : ∀ z ∈ restW p (x + 1) m, (x : Int) ≤ z := fun z hz => by have := restW_ge m z hz; omega
  have ln : lessN (nodesW p x ++ (if p x = true then [(x : Int)] else []) ++ restW p (x + 1) m) (x : Int) = (nodesW p x).length := by
    rw [List.append_assoc]
    refine less_split (fun z hz => nodesW_lt z hz) (fun z hz => ?_)
    rcases List.mem_append.1 hz with h' | h'
    · split at h'
      · simp at h'; omega
      · cases h'
    · exact hb1 z h'
  unfold putL
  rw [ln]
  cases hp : p x
  · rw [if_neg]
    · simp
    · rintro ⟨h1, h2⟩
      simp only [Bool.false_eq_true, if_false, List.append_nil] at h1 h2
      rw [List.getD_eq_getElem?_getD, List.getElem?_append_right (Nat.le_refl _), Nat.sub_self] at h2
      rw [List.length_append] at h1
      rw [List.getElem?_eq_getElem (by omega)] at h2
      have := restW_ge m _ (List.getElem_mem (l := restW p (x + 1) m) (n := 0) (by omega))
      simp at h2
      omega
  · rw [if_pos]
    · simp
    · refine ⟨by simp, ?_⟩
      rw [List.append_assoc, List.getD_eq_getElem?_getD, List.getElem?_append_right (Nat.le_refl _), Nat.sub_self]
      simp
end Go.Proofs.Ytfpckfameebdnaa
