/- Plain mathematics of decimal numerals: reading the numeral of an integer gives the integer. No program is spoken of here. -/
import Derived.Test.YthpkabjgjgmnoaaPlain
import Derived.WalkKit
import Derived.Lib.ItoaNum
import Derived.Lib.ItoaLen
namespace Go.Proofs.Ythpkabjgjgmnoaa
/-- A decimal digit. -/
def isDig (c : UInt8) : Prop := 48 ≤ c.toNat ∧ c.toNat ≤ 57
/-- One byte read: a minus sign turns nothing. -/
def dstep (n : Int) (c : UInt8) : Int := if c.toNat = 45 then n else 10 * n + ((c.toNat : Int) - 48)
def dval (l : List UInt8) : Int := l.foldl dstep 0
theorem dstep_dig (n : Int) (c : UInt8) (h : isDig c) : dstep n c = 10 * n + ((c.toNat : Int) - 48) := by unfold dstep; rw [if_neg]; unfold isDig at h; omega
theorem dstep_le (n : Int) (c : UInt8) (h0 : 0 ≤ n) (h : isDig c ∨ c.toNat = 45) : n ≤ dstep n c := by
  unfold dstep isDig at *
  split <;> omega
theorem fold_le (l : List UInt8) : ∀ n : Int, 0 ≤ n → (∀ c ∈ l, isDig c ∨ c.toNat = 45) → n ≤ l.foldl dstep n := by
  induction l with
  | nil => intro n _ _; exact Int.le_refl _
  | cons c t ih =>
    intro n h0 h
    have h1 := dstep_le n c h0 (h c (by simp))
    exact Int.le_trans h1 (ih _ (by omega) (fun x hx => h x (by simp [hx])))
theorem dval_take (l : List UInt8) (k : Nat) (h : ∀ c ∈ l, isDig c ∨ c.toNat = 45) : 0 ≤ dval (l.take k) ∧ dval (l.take k) ≤ dval l := by
  have h0 : 0 ≤ dval (l.take k) := fold_le _ 0 (Int.le_refl _) (fun c hc => h c (List.mem_of_mem_take hc))
  refine ⟨h0, ?_⟩
  have e : dval l = (l.drop k).foldl dstep (dval (l.take k)) := by
    unfold dval; rw [← List.foldl_append, List.take_append_drop]
  rw [e]
  exact fold_le _ _ h0 (fun c hc => h c (List.mem_of_mem_drop hc))
theorem dval_snoc (l : List UInt8) (c : UInt8) : dval (l ++ [c]) = dstep (dval l) c := by unfold dval; rw [List.foldl_append]; rfl
theorem ofNat_dig (d : Nat) (h : d < 10) : (UInt8.ofNat (48 + d)).toNat = 48 + d := by simp; omega
theorem decDigits_dig (u : Nat) : ∀ c ∈ Lib.decDigits u, isDig c := by
  induction u using Nat.strongRecOn with
  | _ u ih =>
    intro c hc
    rw [Lib.decDigits] at hc
    by_cases h : u < 10
    · rw [dif_pos h] at hc
      simp only [List.mem_singleton] at hc
      subst hc
      unfold isDig; rw [ofNat_dig u h]; omega
    · rw [dif_neg h, List.mem_append] at hc
      rcases hc with hc | hc
      · exact ih _ (by omega) c hc
      · simp only [List.mem_singleton] at hc
        subst hc
        unfold isDig; rw [ofNat_dig _ (by omega)]; omega
theorem decDigits_val (u : Nat) : dval (Lib.decDigits u) = u := by
  induction u using Nat.strongRecOn with
  | _ u ih =>
    rw [Lib.decDigits]
    by_cases h : u < 10
    · rw [dif_pos h]
      show dstep 0 _ = _
      rw [dstep_dig _ _ (by unfold isDig; rw [ofNat_dig u h]; omega), ofNat_dig u h]; omega
    · rw [dif_neg h, dval_snoc, ih _ (by omega), dstep_dig _ _ (by unfold isDig; rw [ofNat_dig _ (by omega)]; omega), ofNat_dig _ (by omega)]; omega
/-- The decimal numeral of an integer, as a Go string. -/
def numB (n : Int) : ByteArray := ⟨(Lib.itoa n).toArray⟩
theorem numB_list (n : Int) : (numB n).data.toList = Lib.itoa n := by unfold numB; simp
theorem itoa_pos (n : Int) (h : 0 ≤ n) : Lib.itoa n = Lib.decDigits n.toNat := by unfold Lib.itoa; rw [if_neg (by omega)]
theorem itoa_negl (n : Int) (h : n < 0) : Lib.itoa n = 45 :: Lib.decDigits n.natAbs := by unfold Lib.itoa; rw [if_pos h]
theorem itoa_bytes (n : Int) : ∀ c ∈ Lib.itoa n, isDig c ∨ c.toNat = 45 := by
  intro c hc
  by_cases h : 0 ≤ n
  · rw [itoa_pos n h] at hc; exact .inl (decDigits_dig _ c hc)
  · rw [itoa_negl n (by omega)] at hc
    rcases List.mem_cons.1 hc with rfl | hc
    · exact .inr rfl
    · exact .inl (decDigits_dig _ c hc)
theorem itoa_val (n : Int) : dval (Lib.itoa n) = n.natAbs := by
  by_cases h : 0 ≤ n
  · rw [itoa_pos n h, decDigits_val]; omega
  · rw [itoa_negl n (by omega)]
    show (Lib.decDigits n.natAbs).foldl dstep (dstep 0 45) = _
    have : dstep 0 45 = 0 := rfl
    rw [this]; exact decDigits_val _
theorem decDigits_len (u : Nat) (h : u ≤ 999999) : 1 ≤ (Lib.decDigits u).length ∧ (Lib.decDigits u).length ≤ 6 := by
  rw [Lib.decDigits_length]
  refine ⟨Lib.nDigits_pos u, ?_⟩
  by_cases h1 : u < 10
  · rw [Lib.nDigits_small h1]; omega
  have := Lib.nDigits_unique 1 u; have := Lib.nDigits_unique 2 u; have := Lib.nDigits_unique 3 u; have := Lib.nDigits_unique 4 u; have := Lib.nDigits_unique 5 u
  simp only [Nat.reducePow, Nat.reduceAdd] at *
  omega
/-- The bytes of a numeral, by place. -/
theorem num_size (n : Int) (h0 : -999999 ≤ n) (h1 : n ≤ 999999) : 1 ≤ (numB n).size ∧ (numB n).size ≤ 7 ∧ (n < 0 → 2 ≤ (numB n).size) ∧ (0 ≤ n → (numB n).size ≤ 6) := by
  have e : (numB n).size = (Lib.itoa n).length := by unfold numB; show (Lib.itoa n).toArray.size = _; simp
  rw [e]
  by_cases h : 0 ≤ n
  · rw [itoa_pos n h]; have := decDigits_len n.toNat (by omega); omega
  · rw [itoa_negl n (by omega)]; have := decDigits_len n.natAbs (by omega); simp only [List.length_cons]; omega
theorem num_len (n : Int) : (numB n).size = (Lib.itoa n).length := by unfold numB; show (Lib.itoa n).toArray.size = _; simp
theorem itoa_at (n : Int) (i : Nat) (h : i < (Lib.itoa n).length) : ((Lib.itoa n)[i].toNat = 45 ∧ n < 0 ∧ i = 0) ∨ (48 ≤ (Lib.itoa n)[i].toNat ∧ (Lib.itoa n)[i].toNat ≤ 57 ∧ ¬ (n < 0 ∧ i = 0)) := by
  by_cases hn : 0 ≤ n
  · have hm : (Lib.itoa n)[i] ∈ Lib.itoa n := List.getElem_mem _
    have := decDigits_dig n.toNat ((Lib.itoa n)[i]) (by rw [← itoa_pos n hn]; exact hm)
    right
    exact ⟨this.1, this.2, by omega⟩
  · have e := itoa_negl n (by omega)
    cases i with
    | zero => left; refine ⟨?_, by omega, rfl⟩; simp [e]
    | succ j =>
      right
      have hm : (Lib.itoa n)[j + 1] ∈ Lib.decDigits n.natAbs := by
        simp only [e, List.getElem_cons_succ]
        exact List.getElem_mem _
      have := decDigits_dig _ _ hm
      exact ⟨this.1, this.2, by omega⟩
theorem num_at (n : Int) (i : Nat) (h : i < (numB n).size) : ((numB n)[i].toNat = 45 ∧ n < 0 ∧ i = 0) ∨ (48 ≤ (numB n)[i].toNat ∧ (numB n)[i].toNat ≤ 57 ∧ ¬ (n < 0 ∧ i = 0)) := by
  have h1 : i < (Lib.itoa n).length := by rw [← num_len]; exact h
  exact itoa_at n i h1
theorem num_step (n : Int) (k : Nat) (h : k < (numB n).size) : dval ((numB n).data.toList.take (k + 1)) = dstep (dval ((numB n).data.toList.take k)) (numB n)[k] := by
  rw [take_snoc _ k h, dval_snoc]
theorem num_bd (n : Int) (k : Nat) (h0 : -999999 ≤ n) (h1 : n ≤ 999999) : 0 ≤ dval ((numB n).data.toList.take k) ∧ dval ((numB n).data.toList.take k) ≤ 999999 := by
  have := dval_take (Lib.itoa n) k (itoa_bytes n)
  rw [itoa_val] at this
  rw [numB_list]; omega
theorem num_all (n : Int) : dval ((numB n).data.toList.take (numB n).size) = n.natAbs := by
  rw [take_all, numB_list, itoa_val]
end Go.Proofs.Ythpkabjgjgmnoaa
