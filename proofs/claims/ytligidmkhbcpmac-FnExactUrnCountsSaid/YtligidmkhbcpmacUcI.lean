/- UrnChance, in the program and in the model. -/
import Derived.Test.YtligidmkhbcpmacUrnF
import Derived.Test.YtligidmkhbcpmacUrnC
import Derived.Test.YtligidmkhbcpmacUrnM
import Derived.Test.YtligidmkhbcpmacL7I
namespace Go.Proofs.Ytligidmkhbcpmac
open Go.RowKit
set_option linter.unusedVariables false
def outU (z : Int) : Bool := !decide (0 ≤ z ∧ z ≤ 1)
def bitB (zs : List Int) : Bool := zs.all fun z => decide (0 ≤ z ∧ z ≤ 1)
theorem any_outU (zs : List Int) : zs.any outU = !bitB zs := by
  unfold bitB outU
  rw [List.not_all_eq_any_not]
theorem bit_at {zs : List Int} (h : bitB zs = true) {i : Nat} (hi : i < zs.length) : 0 ≤ zs.getD i 0 ∧ zs.getD i 0 ≤ 1 := by
  unfold bitB at h
  rw [List.all_eq_true] at h
  exact of_decide_eq_true (h _ (getD_mem hi))
theorem bit_no {zs : List Int} {i : Nat} (hi : i < zs.length) (h : ¬ (0 ≤ zs.getD i 0 ∧ zs.getD i 0 ≤ 1)) : bitB zs = false := by
  cases hb : bitB zs
  · rfl
  · exact absurd (bit_at hb hi) h
theorem bit_yes {zs : List Int} (h : ∀ i, i < zs.length → 0 ≤ zs.getD i 0 ∧ zs.getD i 0 ≤ 1) : bitB zs = true := by
  unfold bitB
  rw [List.all_eq_true]
  intro z hz
  obtain ⟨i, hi, e⟩ := List.getElem_of_mem hz
  have := h i hi
  rw [List.getD_eq_getElem?_getD, List.getElem?_eq_getElem hi] at this
  rw [decide_eq_true_iff, ← e]; exact this
theorem smT_bit {zs : List Int} (h : ∀ i, i < zs.length → 0 ≤ zs.getD i 0 ∧ zs.getD i 0 ≤ 1) : ∀ k, k ≤ zs.length → 0 ≤ smT zs k ∧ smT zs k ≤ k
  | 0, _ => by simp [smT]
  | k + 1, hk => by
      have a := smT_bit h k (by omega)
      have b := h k (by omega)
      show 0 ≤ smT zs k + zs.getD k 0 ∧ smT zs k + zs.getD k 0 ≤ ((k + 1 : Nat) : Int)
      omega
theorem ch_pos : ∀ n, n < 11 → ∀ p, p < 11 → p ≤ n → 1 ≤ chN n p ∧ chN n p ≤ 252 := by decide +kernel
def ucOk (r b x : Int) (zs : List Int) : Bool := urOk r b x && (decide (zs.length ≤ 10) && bitB zs)
def ucV (r b x : Int) (zs : List Int) : Value := if ucOk r b x zs = true then chV (tpL 1 r b x (smT zs zs.length).toNat (zs.length - (smT zs zs.length).toNat)) (grF (r + b) x) ((smT zs zs.length).toNat + (zs.length - (smT zs zs.length).toNat)) else .tuple #[.agg #[.int .i64 0, .int .i64 0], .bool false]
theorem chV_form (T : List Int) (F : Nat → Int) (n : Nat) : ∃ p q ok, chV T F n = .tuple #[.agg #[.int .i64 p, .int .i64 q], .bool ok] := keptV_form _ _
theorem ucV_form (r b x : Int) (zs : List Int) : ∃ p q ok, ucV r b x zs = .tuple #[.agg #[.int .i64 p, .int .i64 q], .bool ok] := by
  unfold ucV
  split
  · exact chV_form _ _ _
  · exact ⟨_, _, _, rfl⟩
theorem urn_has3 {r b x : Int} (h : urOk r b x = true) : (0 ≤ r ∧ r ≤ 20) ∧ (0 ≤ b ∧ b ≤ 20) ∧ (0 ≤ x ∧ x ≤ 20) ∧ 0 < r + b := by
  unfold urOk at h
  simp only [Bool.and_eq_true, decide_eq_true_iff] at h
  exact ⟨h.1.1.1, h.1.1.2, h.1.2, h.2⟩
theorem smT_bit2 {zs : List Int} {m : Nat} (h : ∀ i, i < m → 0 ≤ zs.getD i 0 ∧ zs.getD i 0 ≤ 1) : ∀ k, k ≤ m → 0 ≤ smT zs k ∧ smT zs k ≤ k
  | 0, _ => by simp [smT]
  | k + 1, hk => by
      have a := smT_bit2 h k (by omega)
      have b := h k (by omega)
      show 0 ≤ smT zs k + zs.getD k 0 ∧ smT zs k + zs.getD k 0 ≤ ((k + 1 : Nat) : Int)
      omega
end Go.Proofs.Ytligidmkhbcpmac
