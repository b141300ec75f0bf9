/- The table of walks by place and returns: a step that spreads, a step that gathers; no program is spoken of here. -/
import Derived.Test.YtmidlabgmmejbabFill
namespace Go.Proofs.Ytmidlabgmmejbab
set_option linter.unusedVariables false
/-- What place a at r sends to place t: the number of returns there. -/
def kkR (m t r : Nat) : Nat := if t = m then r + 1 else r
/-- What place a sends to t, from its first p numbers of returns. -/
def partR (m : Nat) (f : Nat → Nat → Nat) (a p t q : Nat) : Nat := if t = m then (if 1 ≤ q ∧ q - 1 < p then f a (q - 1) else 0) else (if q < p then f a q else 0)
/-- All that place a sends to t. -/
def ctrR (m : Nat) (f : Nat → Nat → Nat) (a t q : Nat) : Nat := if t = m then (if 1 ≤ q then f a (q - 1) else 0) else (if q ≤ m / 2 then f a q else 0)
/-- The next table, from the places below A. -/
def nxR (m : Nat) (f : Nat → Nat → Nat) (A t q : Nat) : Nat := (if 2 ≤ t ∧ t - 1 < A then ctrR m f (t - 1) t q else 0) + (if 2 ≤ t + 2 ∧ t + 1 < A then ctrR m f (t + 1) t q else 0)
/-- The next table, from the places below A and from the first p numbers of returns of A. -/
def nrR (m : Nat) (f : Nat → Nat → Nat) (A p t q : Nat) : Nat := nxR m f A t q + (if t + 1 = A ∨ t = A + 1 then partR m f A p t q else 0)
def bumpR (F : Nat → Nat → Nat) (t k x : Nat) : Nat → Nat → Nat := fun t' q => if t' = t ∧ q = k then F t' q + x else F t' q
theorem part_zero (m : Nat) (f : Nat → Nat → Nat) (a t q : Nat) : partR m f a 0 t q = 0 := by unfold partR; simp
theorem part_succ (m : Nat) (f : Nat → Nat → Nat) (a p t q : Nat) : partR m f a (p + 1) t q = partR m f a p t q + (if q = kkR m t p then f a p else 0) := by
  unfold partR kkR
  by_cases ht : t = m
  · simp only [if_pos ht]
    by_cases h1 : q = p + 1
    · subst h1
      rw [if_pos (by omega), if_neg (by omega), if_pos rfl, Nat.zero_add]; rfl
    · rw [if_neg h1, Nat.add_zero]
      by_cases h2 : 1 ≤ q ∧ q - 1 < p
      · rw [if_pos h2, if_pos (by omega)]; rfl
      · rw [if_neg h2, if_neg (by omega)]
  · simp only [if_neg ht]
    by_cases h1 : q = p
    · subst h1
      rw [if_pos (by omega), if_neg (by omega), if_pos rfl, Nat.zero_add]
    · rw [if_neg h1, Nat.add_zero]
      by_cases h2 : q < p
      · rw [if_pos h2, if_pos (by omega)]; rfl
      · rw [if_neg h2, if_neg (by omega)]
theorem part_full {m : Nat} (f : Nat → Nat → Nat) (a t : Nat) {q : Nat} (hq : q < m / 2 + 2) : partR m f a (m / 2 + 1) t q = ctrR m f a t q := by
  unfold partR ctrR
  by_cases ht : t = m
  · simp only [if_pos ht]
    by_cases h2 : 1 ≤ q
    · rw [if_pos h2, if_pos (by omega)]
    · rw [if_neg h2, if_neg (by omega)]
  · simp only [if_neg ht]
    by_cases h2 : q ≤ m / 2
    · rw [if_pos h2, if_pos (by omega)]
    · rw [if_neg h2, if_neg (by omega)]
theorem nr_zero (m : Nat) (f : Nat → Nat → Nat) (A t q : Nat) : nrR m f A 0 t q = nxR m f A t q := by
  unfold nrR; rw [part_zero]; simp
theorem nr_succ {m : Nat} (f : Nat → Nat → Nat) {A : Nat} (hA : 1 ≤ A) (p t q : Nat) :
    nrR m f A (p + 1) t q = bumpR (bumpR (nrR m f A p) (A - 1) (kkR m (A - 1) p) (f A p)) (A + 1) (kkR m (A + 1) p) (f A p) t q := by
  unfold bumpR nrR
  rw [part_succ]
  by_cases h1 : t = A + 1
  · have hk : kkR m t p = kkR m (A + 1) p := by rw [h1]
    have e1 : ¬ (t = A - 1 ∧ q = kkR m (A - 1) p) := by omega
    have e3 : t + 1 = A ∨ t = A + 1 := Or.inr h1
    rw [hk, if_pos e3, if_pos e3, if_neg e1]
    by_cases h2 : q = kkR m (A + 1) p
    · rw [if_pos (c := t = A + 1 ∧ q = kkR m (A + 1) p) ⟨h1, h2⟩, if_pos h2]; omega
    · rw [if_neg (c := t = A + 1 ∧ q = kkR m (A + 1) p) (fun h => h2 h.2), if_neg h2]; omega
  · rw [if_neg (c := t = A + 1 ∧ q = kkR m (A + 1) p) (fun h => h1 h.1)]
    by_cases h3 : t = A - 1
    · have hk : kkR m t p = kkR m (A - 1) p := by rw [h3]
      have e3 : t + 1 = A ∨ t = A + 1 := Or.inl (by omega)
      rw [hk, if_pos e3, if_pos e3]
      by_cases h2 : q = kkR m (A - 1) p
      · rw [if_pos (c := t = A - 1 ∧ q = kkR m (A - 1) p) ⟨h3, h2⟩, if_pos h2]; omega
      · rw [if_neg (c := t = A - 1 ∧ q = kkR m (A - 1) p) (fun h => h2 h.2), if_neg h2]; omega
    · have e3 : ¬ (t + 1 = A ∨ t = A + 1) := by omega
      rw [if_neg e3, if_neg e3, if_neg (c := t = A - 1 ∧ q = kkR m (A - 1) p) (fun h => h3 h.1)]
theorem nr_full {m : Nat} (f : Nat → Nat → Nat) {A : Nat} (hA : 1 ≤ A) (t : Nat) {q : Nat} (hq : q < m / 2 + 2) : nrR m f A (m / 2 + 1) t q = nxR m f (A + 1) t q := by
  unfold nrR nxR
  rw [part_full f A t hq]
  by_cases h1 : t = A + 1
  · have h2 : t - 1 = A := by omega
    rw [if_pos (c := t + 1 = A ∨ t = A + 1) (Or.inr h1), if_neg (c := 2 ≤ t ∧ t - 1 < A) (by omega), if_neg (c := 2 ≤ t + 2 ∧ t + 1 < A) (by omega), if_pos (c := 2 ≤ t ∧ t - 1 < A + 1) (by omega), if_neg (c := 2 ≤ t + 2 ∧ t + 1 < A + 1) (by omega), h2]
    omega
  · by_cases h3 : t + 1 = A
    · rw [if_pos (c := t + 1 = A ∨ t = A + 1) (Or.inl h3), if_neg (c := 2 ≤ t + 2 ∧ t + 1 < A) (by omega), if_pos (c := 2 ≤ t + 2 ∧ t + 1 < A + 1) (by omega), h3]
      by_cases h4 : 2 ≤ t
      · rw [if_pos (c := 2 ≤ t ∧ t - 1 < A) (by omega), if_pos (c := 2 ≤ t ∧ t - 1 < A + 1) (by omega)]
        rfl
      · rw [if_neg (c := 2 ≤ t ∧ t - 1 < A) (by omega), if_neg (c := 2 ≤ t ∧ t - 1 < A + 1) (by omega)]
    · rw [if_neg (c := t + 1 = A ∨ t = A + 1) (by omega)]
      have e1 : (2 ≤ t ∧ t - 1 < A) ↔ (2 ≤ t ∧ t - 1 < A + 1) := by omega
      have e2 : (2 ≤ t + 2 ∧ t + 1 < A) ↔ (2 ≤ t + 2 ∧ t + 1 < A + 1) := by omega
      simp only [e1, e2]; rfl
theorem nx_one (m : Nat) (f : Nat → Nat → Nat) (t q : Nat) : nxR m f 1 t q = 0 := by
  unfold nxR; rw [if_neg (by omega), if_neg (by omega)]
/-- Cells by bounds: the next table's cells are at most twice as great. -/
theorem ctr_le {m : Nat} {f : Nat → Nat → Nat} {B : Nat} (hf : ∀ a r, f a r ≤ B) (a t q : Nat) : ctrR m f a t q ≤ B := by
  unfold ctrR
  split
  · split
    · exact hf _ _
    · omega
  · split
    · exact hf _ _
    · omega
theorem part_le {m : Nat} {f : Nat → Nat → Nat} {B : Nat} (hf : ∀ a r, f a r ≤ B) (a p t q : Nat) : partR m f a p t q ≤ B := by
  unfold partR
  split
  · split
    · exact hf _ _
    · omega
  · split
    · exact hf _ _
    · omega
theorem nx_le {m : Nat} {f : Nat → Nat → Nat} {B : Nat} (hf : ∀ a r, f a r ≤ B) (A t q : Nat) : nxR m f A t q ≤ 2 * B := by
  unfold nxR
  have h1 := ctr_le (m := m) hf (t - 1) t q
  have h2 := ctr_le (m := m) hf (t + 1) t q
  split <;> split <;> omega
theorem nr_le {m : Nat} {f : Nat → Nat → Nat} {B : Nat} (hf : ∀ a r, f a r ≤ B) (A p t q : Nat) : nrR m f A p t q ≤ 3 * B := by
  unfold nrR
  have h1 := nx_le (m := m) hf A t q
  have h2 := part_le (m := m) hf A p t q
  split <;> omega
/-- The tables of a walk of m steps, after s of them. -/
def dpR (m : Nat) : Nat → Nat → Nat → Nat
  | 0 => fun a r => if a = m ∧ r = 0 then 1 else 0
  | s + 1 => nxR m (dpR m s) (2 * m)
theorem dp_le (m : Nat) : ∀ s a r, dpR m s a r ≤ 2 ^ s
  | 0, a, r => by unfold dpR; split <;> simp
  | s + 1, a, r => by
      have h := nx_le (m := m) (f := dpR m s) (B := 2 ^ s) (dp_le m s) (2 * m) a r
      rw [Nat.pow_succ, Nat.mul_comm]
      exact h
/-- The same as lists, that the kernel reckons. -/
def cellR (L : List (List Nat)) (a r : Nat) : Nat := (L.getD a []).getD r 0
def tabR (m : Nat) (f : Nat → Nat → Nat) : List (List Nat) := (List.range (2 * m + 1)).map fun a => (List.range (m / 2 + 2)).map fun r => f a r
def dpLR (m : Nat) : Nat → List (List Nat)
  | 0 => tabR m (fun a r => if a = m ∧ r = 0 then 1 else 0)
  | s + 1 => tabR m (nxR m (cellR (dpLR m s)) (2 * m))
theorem cell_tab {m a r : Nat} (f : Nat → Nat → Nat) (ha : a ≤ 2 * m) (hr : r < m / 2 + 2) : cellR (tabR m f) a r = f a r := by
  unfold cellR tabR
  rw [List.getD_eq_getElem?_getD (l := List.map _ (List.range (2 * m + 1))), List.getElem?_map, List.getElem?_range (by omega)]
  simp only [Option.map_some, Option.getD_some]
  rw [List.getD_eq_getElem?_getD, List.getElem?_map, List.getElem?_range hr]; rfl
theorem ctr_congr {m : Nat} {f g : Nat → Nat → Nat} {a t q : Nat} (ha : a ≤ 2 * m) (hq : q < m / 2 + 2) (h : ∀ b r, b ≤ 2 * m → r < m / 2 + 2 → f b r = g b r) : ctrR m f a t q = ctrR m g a t q := by
  unfold ctrR
  split
  · split
    · exact h _ _ ha (by omega)
    · rfl
  · split
    · exact h _ _ ha (by omega)
    · rfl
theorem nx_congr {m : Nat} {f g : Nat → Nat → Nat} {t q : Nat} (ht : t ≤ 2 * m) (hq : q < m / 2 + 2) (h : ∀ b r, b ≤ 2 * m → r < m / 2 + 2 → f b r = g b r) : nxR m f (2 * m) t q = nxR m g (2 * m) t q := by
  unfold nxR
  congr 1
  · split
    · exact ctr_congr (by omega) hq h
    · rfl
  · split
    · exact ctr_congr (by omega) hq h
    · rfl
theorem dp_list (m : Nat) : ∀ s a r, a ≤ 2 * m → r < m / 2 + 2 → cellR (dpLR m s) a r = dpR m s a r
  | 0, a, r, ha, hr => cell_tab _ ha hr
  | s + 1, a, r, ha, hr => by
      show cellR (tabR m (nxR m (cellR (dpLR m s)) (2 * m))) a r = nxR m (dpR m s) (2 * m) a r
      rw [cell_tab _ ha hr]
      exact nx_congr ha hr (dp_list m s)
/-- The column's sum over the first A places. -/
def colR (m r : Nat) : Nat → Nat
  | 0 => 0
  | A + 1 => colR m r A + dpR m m A r
def colLR (L : List (List Nat)) (r : Nat) : Nat → Nat
  | 0 => 0
  | A + 1 => colLR L r A + cellR L A r
theorem col_list {m r : Nat} (hr : r < m / 2 + 2) : ∀ A, A ≤ 2 * m + 1 → colLR (dpLR m m) r A = colR m r A
  | 0, _ => rfl
  | A + 1, h => by
      show colLR (dpLR m m) r A + cellR (dpLR m m) A r = colR m r A + dpR m m A r
      rw [col_list hr A (by omega), dp_list m m A r (by omega) hr]
theorem col_le (m r : Nat) : ∀ A, colR m r A ≤ A * 2 ^ m
  | 0 => by simp [colR]
  | A + 1 => by
      have h1 := col_le m r A
      have h2 := dp_le m m A r
      rw [Nat.succ_mul]
      show colR m r A + dpR m m A r ≤ _
      omega
end Go.Proofs.Ytmidlabgmmejbab
