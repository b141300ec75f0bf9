/- What rows of steps are worth, told by numbers. No program is spoken of here. -/
import Derived.Test.YtmidlabgmmejbabFracP
import Derived.Test.YtmidlabgmmejbabProcI
namespace Go.Proofs.Ytmidlabgmmejbab
open Go.RowKit
set_option linter.unusedVariables false
/-- A row of steps. -/
def rowOk (n u d : Int) : Bool := decide ((0 ≤ n ∧ n ≤ 4) ∧ (1 ≤ u ∧ u ≤ 9) ∧ (1 ≤ d ∧ d ≤ 9))
/-- What a row of k steps is worth, times a power. -/
def rvT (u d : Int) : Nat → List Int → Int
  | 0, L => L.getD 0 0
  | k + 1, L => rvT u d k (L.drop 1) * d + rvT u d k (L.take (k + 1)) * u
theorem getD_drop1 (L : List Int) (i : Nat) : (L.drop 1).getD i 0 = L.getD (1 + i) 0 := by
  rw [List.getD_eq_getElem?_getD, List.getElem?_drop, ← List.getD_eq_getElem?_getD]
theorem getD_takek (L : List Int) {k i : Nat} (h : i < k) : (L.take k).getD i 0 = L.getD i 0 := by
  rw [List.getD_eq_getElem?_getD, List.getElem?_take, if_pos h, ← List.getD_eq_getElem?_getD]
theorem within_drop {m : Int} {L : List Int} (h : withinB m L = true) : withinB m (L.drop 1) = true := by
  unfold withinB at h ⊢
  rw [List.all_eq_true] at h ⊢
  exact fun z hz => h z (List.mem_of_mem_drop hz)
theorem within_take {m : Int} {L : List Int} (k : Nat) (h : withinB m L = true) : withinB m (L.take k) = true := by
  unfold withinB at h ⊢
  rw [List.all_eq_true] at h ⊢
  exact fun z hz => h z (List.mem_of_mem_take hz)
theorem rv_mul {x d : Int} {B : Nat} (hx : x.natAbs ≤ B) (hd : 1 ≤ d ∧ d ≤ 9) : (x * d).natAbs ≤ B * 9 := by
  rw [Int.natAbs_mul]; exact Nat.mul_le_mul hx (by omega)
theorem rv_bd {u d : Int} (hu : 1 ≤ u ∧ u ≤ 9) (hd : 1 ≤ d ∧ d ≤ 9) : ∀ (k : Nat) (L : List Int), L.length = k + 1 → withinB 999 L = true → (rvT u d k L).natAbs ≤ 999 * 18 ^ k := by
  intro k
  induction k with
  | zero => intro L hl h; have := within_at h (i := 0) (by omega); simp only [rvT, Nat.pow_zero]; omega
  | succ k ih =>
    intro L hl h
    have h1 := rv_mul (ih (L.drop 1) (by rw [List.length_drop]; omega) (within_drop h)) hd
    have h2 := rv_mul (ih (L.take (k + 1)) (by rw [List.length_take]; omega) (within_take _ h)) hu
    have h3 : 999 * 18 ^ (k + 1) = 999 * 18 ^ k * 9 + 999 * 18 ^ k * 9 := by rw [Nat.pow_succ]; omega
    simp only [rvT]
    omega
theorem rv_small {u d : Int} (hu : 1 ≤ u ∧ u ≤ 9) (hd : 1 ≤ d ∧ d ≤ 9) {k : Nat} {L : List Int} (hl : L.length = k + 1) (hk : k ≤ 4) (h : withinB 999 L = true) : (rvT u d k L).natAbs ≤ 104871024 := by
  refine Nat.le_trans (rv_bd hu hd k L hl h) ?_
  have : (18 : Nat) ^ k ≤ 18 ^ 4 := Nat.pow_le_pow_right (by omega) hk
  omega
theorem rv_parts {u d : Int} (hu : 1 ≤ u ∧ u ≤ 9) (hd : 1 ≤ d ∧ d ≤ 9) {k : Nat} {L : List Int} (hl : L.length = k + 2) (hk : k ≤ 3) (h : withinB 999 L = true) :
    (rvT u d k (L.drop 1) * d).natAbs ≤ 943839216 ∧ (rvT u d k (L.take (k + 1)) * u).natAbs ≤ 943839216 :=
  ⟨rv_mul (rv_small hu hd (by rw [List.length_drop]; omega) (by omega) (within_drop h)) hd, rv_mul (rv_small hu hd (by rw [List.length_take]; omega) (by omega) (within_take _ h)) hu⟩
theorem rv_succ (u d : Int) (k : Nat) (L : List Int) : rvT u d (k + 1) L = rvT u d k (L.drop 1) * d + rvT u d k (L.take (k + 1)) * u := rfl
/-- The values of a row. -/
def valsOk (n u d : Int) (L : List Int) : Bool := rowOk n u d && (decide ((L.length : Int) = n + 1) && withinB 999 L)
theorem row_mk {n u d : Int} (h : rowOk n u d = true) : ∃ N U D : Nat, n = N ∧ u = U ∧ d = D ∧ N ≤ 4 ∧ (1 ≤ U ∧ U ≤ 9) ∧ (1 ≤ D ∧ D ≤ 9) := by
  unfold rowOk at h
  rw [decide_eq_true_iff] at h
  exact ⟨n.toNat, u.toNat, d.toNat, by omega, by omega, by omega, by omega, by omega, by omega⟩
theorem pow18 {b k : Nat} (hb : b ≤ 18) (hk : k ≤ 4) : b ^ k ≤ 104976 := by
  refine Nat.le_trans (Nat.pow_le_pow_left hb k) (Nat.le_trans (Nat.pow_le_pow_right (by omega) hk) (by decide))
theorem pow_pos1 {b : Nat} (k : Nat) (hb : 1 ≤ b) : 1 ≤ b ^ k := Nat.pow_pos hb
end Go.Proofs.Ytmidlabgmmejbab
