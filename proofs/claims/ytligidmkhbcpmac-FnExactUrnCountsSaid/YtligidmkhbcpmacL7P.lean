/- Laws of offers, told by lists. No program is spoken of here. -/
import Derived.Test.YtligidmkhbcpmacFracP
namespace Go.Proofs.Ytligidmkhbcpmac
set_option linter.unusedVariables false
/-- The sum of the first ones. -/
def smT (zs : List Int) : Nat → Int
  | 0 => 0
  | k + 1 => smT zs k + zs.getD k 0
/-- The sum of the first ones, each times its place. -/
def moT (zs : List Int) : Nat → Int
  | 0 => 0
  | k + 1 => moT zs k + (k : Int) * zs.getD k 0
/-- A weight within bounds. -/
def inV (z : Int) : Bool := decide (0 ≤ z ∧ z ≤ 5)
def outV (z : Int) : Bool := !inV z
def lawB (zs : List Int) : Bool := decide (1 ≤ zs.length ∧ zs.length ≤ 5) && (zs.all inV && decide (0 < smT zs zs.length))
structure Law (zs : List Int) : Prop where
  n1 : 1 ≤ zs.length
  n5 : zs.length ≤ 5
  bd : ∀ i, i < zs.length → 0 ≤ zs.getD i 0 ∧ zs.getD i 0 ≤ 5
  pos : 0 < smT zs zs.length
theorem getD_memV {zs : List Int} {i : Nat} (hi : i < zs.length) : zs.getD i 0 ∈ zs := by
  rw [List.getD_eq_getElem?_getD, List.getElem?_eq_getElem hi]; exact List.getElem_mem hi
theorem allV_at {zs : List Int} (h : zs.all inV = true) {i : Nat} (hi : i < zs.length) : 0 ≤ zs.getD i 0 ∧ zs.getD i 0 ≤ 5 := by
  rw [List.all_eq_true] at h
  exact of_decide_eq_true (h _ (getD_memV hi))
theorem allV_yes {zs : List Int} (h : ∀ i, i < zs.length → 0 ≤ zs.getD i 0 ∧ zs.getD i 0 ≤ 5) : zs.all inV = true := by
  rw [List.all_eq_true]
  intro z hz
  obtain ⟨i, hi, e⟩ := List.getElem_of_mem hz
  have := h i hi
  rw [List.getD_eq_getElem?_getD, List.getElem?_eq_getElem hi] at this
  unfold inV
  rw [decide_eq_true_iff, ← e]; exact this
theorem allV_no {zs : List Int} {i : Nat} (hi : i < zs.length) (h : ¬ (0 ≤ zs.getD i 0 ∧ zs.getD i 0 ≤ 5)) : zs.all inV = false := by
  cases hb : zs.all inV
  · rfl
  · exact absurd (allV_at hb hi) h
theorem any_outV (zs : List Int) : zs.any outV = !zs.all inV := by
  unfold outV
  rw [List.not_all_eq_any_not]
theorem lawB_iff {zs : List Int} : lawB zs = true ↔ Law zs := by
  unfold lawB
  rw [Bool.and_eq_true, Bool.and_eq_true, decide_eq_true_iff, decide_eq_true_iff]
  constructor
  · rintro ⟨⟨a, b⟩, c, d⟩; exact ⟨a, b, fun i hi => allV_at c hi, d⟩
  · intro p; exact ⟨⟨p.n1, p.n5⟩, allV_yes p.bd, p.pos⟩
/-- In the program's order: length, weights, total. -/
theorem lawB_prog (zs : List Int) : lawB zs = (decide (zs.length ≤ 5) && (zs.all inV && decide (0 < smT zs zs.length))) := by
  unfold lawB
  cases zs with
  | nil => rfl
  | cons a l => rw [show decide (1 ≤ (a :: l).length ∧ (a :: l).length ≤ 5) = decide ((a :: l).length ≤ 5) from by rw [Bool.eq_iff_iff, decide_eq_true_iff, decide_eq_true_iff]; simp]
theorem smT_bd {zs : List Int} {B : Nat} (h : ∀ i, i < zs.length → -(B : Int) ≤ zs.getD i 0 ∧ zs.getD i 0 ≤ B) : ∀ k, k ≤ zs.length → -((k * B : Nat) : Int) ≤ smT zs k ∧ smT zs k ≤ ((k * B : Nat) : Int)
  | 0, _ => by simp [smT]
  | k + 1, hk => by
    have a := smT_bd h k (by omega)
    have b := h k (by omega)
    have e : (k + 1) * B = k * B + B := Nat.succ_mul k B
    simp only [smT]
    omega
theorem smT_nonneg {zs : List Int} (h : ∀ i, i < zs.length → 0 ≤ zs.getD i 0) : ∀ k, k ≤ zs.length → 0 ≤ smT zs k
  | 0, _ => by simp [smT]
  | k + 1, hk => by
    have a := smT_nonneg h k (by omega)
    have b := h k (by omega)
    simp only [smT]; omega
theorem moT_bd {zs : List Int} {B N : Nat} (hN : zs.length ≤ N) (h : ∀ i, i < zs.length → 0 ≤ zs.getD i 0 ∧ zs.getD i 0 ≤ B) : ∀ k, k ≤ zs.length → 0 ≤ moT zs k ∧ moT zs k ≤ ((k * (N * B) : Nat) : Int)
  | 0, _ => by simp [moT]
  | k + 1, hk => by
    have a := moT_bd hN h k (by omega)
    have b := h k (by omega)
    have e : (k + 1) * (N * B) = k * (N * B) + N * B := Nat.succ_mul k _
    have p0 : 0 ≤ (k : Int) * zs.getD k 0 := Int.mul_nonneg (by omega) b.1
    have p1 : (k : Int) * zs.getD k 0 ≤ ((N * B : Nat) : Int) := by
      rw [Int.natCast_mul]
      exact Int.mul_le_mul (by omega) b.2 b.1 (by omega)
    simp only [moT]
    omega
theorem Law.sum_bd {zs : List Int} (p : Law zs) {k : Nat} (hk : k ≤ zs.length) : 0 ≤ smT zs k ∧ smT zs k ≤ 25 := by
  have a := smT_nonneg (fun i hi => (p.bd i hi).1) k hk
  have b := smT_bd (B := 5) (fun i hi => by have := p.bd i hi; omega) k hk
  have := p.n5
  have : k * 5 ≤ 25 := by omega
  omega
theorem Law.mom_bd {zs : List Int} (p : Law zs) {k : Nat} (hk : k ≤ zs.length) : 0 ≤ moT zs k ∧ moT zs k ≤ 125 := by
  have b := moT_bd (B := 5) (N := 5) p.n5 (fun i hi => p.bd i hi) k hk
  have := p.n5
  omega
end Go.Proofs.Ytligidmkhbcpmac
