/- Plain mathematics of decimal numerals, second part: what a text's sign and digits say of the integer it spells. No program is spoken of here. -/
import Derived.Test.YthpkabjgjgmnoaaDoorDig
import Derived.Lib.Strings
namespace Go.Proofs.YthpkabjgjgmnoaaDoor
theorem bytes_inj {a b : ByteArray} (h : a.data.toList = b.data.toList) : a = b := by
  apply ByteArray.ext; exact Array.toList_inj.1 h
theorem bytes_yes (a b : ByteArray) (h : a = b) : (a.toList == b.toList) = true := by subst h; exact beq_self_eq_true _
theorem bytes_no (a b : ByteArray) (h : a ≠ b) : (a.toList == b.toList) = false := by
  cases e : (a.toList == b.toList) with
  | false => rfl
  | true => exact absurd (bytes_inj (by rw [← Lib.toList_data, ← Lib.toList_data]; exact eq_of_beq e)) h
theorem dval_bd (l : List UInt8) (h : ∀ c ∈ l, isDig c) : 0 ≤ dval l ∧ dval l + 1 ≤ (10 ^ l.length : Nat) := by
  have key : ∀ (l : List UInt8) (n : Int), 0 ≤ n → (∀ c ∈ l, isDig c) → 0 ≤ l.foldl dstep n ∧ l.foldl dstep n + 1 ≤ (n + 1) * (10 ^ l.length : Nat) := by
    intro l
    induction l with
    | nil => intro n h0 _; simp; exact h0
    | cons c t ih =>
      intro n h0 hc
      have hd := hc c (by simp)
      have e := dstep_dig n c hd
      unfold isDig at hd
      have := ih (dstep n c) (by omega) (fun x hx => hc x (by simp [hx]))
      refine ⟨this.1, Int.le_trans this.2 ?_⟩
      rw [List.length_cons, Nat.pow_succ, Nat.mul_comm, Int.natCast_mul, ← Int.mul_assoc]
      exact Int.mul_le_mul_of_nonneg_right (by omega) (Int.natCast_nonneg _)
  have := key l 0 (by omega) h
  simpa [dval] using this
theorem dval_six (l : List UInt8) (h : ∀ c ∈ l, isDig c) (h6 : l.length ≤ 6) : 0 ≤ dval l ∧ dval l ≤ 999999 := by
  have := dval_bd l h
  have e : 10 ^ l.length ≤ 10 ^ 6 := Nat.pow_le_pow_right (by omega) h6
  simp only [Nat.reducePow] at e
  omega
/-- All bytes of a text up to a place are digits. -/
def digsTo (t : ByteArray) (k : Nat) : Prop := ∀ c ∈ t.data.toList.take k, isDig c
theorem digsTo_zero (t : ByteArray) : digsTo t 0 := by intro c hc; simp at hc
theorem digsTo_succ (t : ByteArray) (k : Nat) (h : k < t.size) (hd : digsTo t k) (h0 : 48 ≤ t[k].toNat) (h1 : t[k].toNat ≤ 57) : digsTo t (k + 1) := by
  intro c hc
  rw [take_snoc t k h, List.mem_append] at hc
  rcases hc with hc | hc
  · exact hd c hc
  · simp only [List.mem_singleton] at hc; subst hc; exact ⟨h0, h1⟩
theorem digsTo_val (t : ByteArray) (k : Nat) (h : k < t.size) (h0 : 48 ≤ t[k].toNat) (h1 : t[k].toNat ≤ 57) : dval (t.data.toList.take (k + 1)) = 10 * dval (t.data.toList.take k) + ((t[k].toNat : Int) - 48) := by
  rw [take_snoc t k h, dval_snoc, dstep_dig _ _ ⟨h0, h1⟩]
theorem digsTo_six (t : ByteArray) (k : Nat) (h : t.size ≤ 6) (hd : digsTo t k) : 0 ≤ dval (t.data.toList.take k) ∧ dval (t.data.toList.take k) ≤ 999999 :=
  dval_six _ hd (by rw [List.length_take]; have : t.data.toList.length = t.size := by simp
                    omega)
theorem not_dig (t : ByteArray) (k : Nat) (h : k < t.size) (hx : t[k].toNat < 48 ∨ 57 < t[k].toNat) : ¬ digsTo t t.size := by
  intro hd
  have : isDig t[k] := hd _ (by rw [take_all]; exact Array.getElem_mem_toList (by simpa using h))
  unfold isDig at this; omega
/-- A text that spells m: what it is behind its sign. -/
theorem spells_neg (s t : ByteArray) (m : Int) (h0 : -999999 ≤ m) (h1 : m ≤ 999999) (hs : s = numB m) (hz : 1 < s.size) (h45 : s[0].toNat = 45) (ht : t = s.extract 1 s.size) :
    m < 0 ∧ 1 ≤ t.size ∧ t.size ≤ 6 ∧ digsTo t t.size ∧ m = -dval (t.data.toList.take t.size) := by
  subst hs
  have hm : m < 0 := by
    have := num_at m 0 (by omega)
    rcases this with ⟨_, h, _⟩ | ⟨h, _, _⟩
    · exact h
    · rw [h45] at h; omega
  have hl := num_len m
  have hn := decDigits_len m.natAbs (by omega)
  have e := itoa_negl m hm
  rw [e, List.length_cons] at hl
  have hd : t.data.toList = Lib.decDigits m.natAbs := by
    rw [ht]
    have : ((numB m).extract 1 (numB m).size).data.toList = (numB m).data.toList.drop 1 := by
      rw [Lib.extract_data]
      exact List.take_of_length_le (by simp)
    rw [this, numB_list, e]; rfl
  have hts : t.size = (Lib.decDigits m.natAbs).length := by rw [← hd]; simp
  refine ⟨hm, by omega, by omega, ?_, ?_⟩
  · intro c hc; rw [take_all, hd] at hc; exact decDigits_dig _ c hc
  · rw [take_all, hd, decDigits_val]; omega
theorem spells_pos (s : ByteArray) (m : Int) (h0 : -999999 ≤ m) (h1 : m ≤ 999999) (hs : s = numB m) (hx : ∀ h : 1 < s.size, s[0].toNat ≠ 45) :
    0 ≤ m ∧ 1 ≤ s.size ∧ s.size ≤ 6 ∧ digsTo s s.size ∧ m = dval (s.data.toList.take s.size) := by
  subst hs
  have hz := num_size m h0 h1
  have hm : 0 ≤ m := by
    by_cases hm : 0 ≤ m
    · exact hm
    · have h2 := hz.2.2.1 (by omega)
      have := num_at m 0 (by omega)
      rcases this with ⟨h, _, _⟩ | ⟨_, _, h⟩
      · exact absurd h (hx (by omega))
      · exact absurd ⟨by omega, rfl⟩ h
  refine ⟨hm, hz.1, hz.2.2.2 hm, ?_, ?_⟩
  · intro c hc; rw [take_all, numB_list, itoa_pos m hm] at hc; exact decDigits_dig _ c hc
  · rw [take_all, numB_list, itoa_val]; omega
/-- Two integers within the bounds that have one numeral are one. -/
theorem spell_one (m k : Int) (h0 : -999999 ≤ m) (h1 : m ≤ 999999) (k0 : -999999 ≤ k) (k1 : k ≤ 999999) (h : numB m = numB k) : k = m := by
  have hl : Lib.itoa m = Lib.itoa k := by rw [← numB_list, ← numB_list, h]
  have hv : (m.natAbs : Int) = k.natAbs := by rw [← itoa_val, ← itoa_val, hl]
  by_cases hm : 0 ≤ m <;> by_cases hk : 0 ≤ k
  · omega
  · rw [itoa_pos m hm, itoa_negl k (by omega)] at hl
    have := decDigits_dig m.toNat 45 (by rw [hl]; simp)
    unfold isDig at this
    exact absurd this.1 (by decide)
  · rw [itoa_negl m (by omega), itoa_pos k hk] at hl
    have := decDigits_dig k.toNat 45 (by rw [← hl]; simp)
    unfold isDig at this
    exact absurd this.1 (by decide)
  · omega
end Go.Proofs.YthpkabjgjgmnoaaDoor
